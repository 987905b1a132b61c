package tests

import (
	"math"
	"math/big"
	"strings"
	"testing"

	"loop.example/g01344/impl"
)

// arguments has one of each kind that a function of chapter 1 takes.
type arguments struct {
	a, b   impl.Train
	x, y   float32
	n      int64
	number string
	text   string
}

// wheelCalls tells for each function of chapter 1 what it returns.
func wheelCalls() map[string]func(arguments) string {
	return map[string]func(arguments) string{
		"CodeName":     func(g arguments) string { return show(impl.CodeName(g.n)) },
		"SameNumber":   func(g arguments) string { return show(impl.SameNumber(g.x, g.y)) },
		"IsPlain":      func(g arguments) string { return show(impl.IsPlain(g.x)) },
		"IsPart":       func(g arguments) string { return show(impl.IsPart(g.x)) },
		"ValidTrain":   func(g arguments) string { return show(impl.ValidTrain(g.a)) },
		"SameTrain":    func(g arguments) string { return show(impl.SameTrain(g.a, g.b)) },
		"RatioOf":      func(g arguments) string { a, b, c := impl.RatioOf(g.a); return show(a, b, c) },
		"FactorOf":     func(g arguments) string { a, c := impl.FactorOf(g.a); return show(a, c) },
		"IsReversed":   func(g arguments) string { a, c := impl.IsReversed(g.a); return show(a, c) },
		"SpeedsOf":     func(g arguments) string { a, c := impl.SpeedsOf(g.a, g.x); return show(a, c) },
		"TorquesOf":    func(g arguments) string { a, c := impl.TorquesOf(g.a, g.x); return show(a, c) },
		"PowersOf":     func(g arguments) string { a, c := impl.PowersOf(g.a, g.x, g.y); return show(a, c) },
		"EfficiencyOf": func(g arguments) string { a, c := impl.EfficiencyOf(g.a); return show(a, c) },
		"LostPower":    func(g arguments) string { a, c := impl.LostPower(g.a, g.x, g.y); return show(a, c) },
		"WorstPair":    func(g arguments) string { a, b, c := impl.WorstPair(g.a); return show(a, b, c) },
		"WithLoss":     func(g arguments) string { a, c := impl.WithLoss(g.a, g.n, g.x); return show(a, c) },
		"BackTrain":    func(g arguments) string { a, c := impl.BackTrain(g.a); return show(a, c) },
		"JoinTrains":   func(g arguments) string { a, c := impl.JoinTrains(g.a, g.b); return show(a, c) },
		"RadiusOf":     func(g arguments) string { a, c := impl.RadiusOf(g.n, g.x); return show(a, c) },
		"DistancesOf":  func(g arguments) string { a, c := impl.DistancesOf(g.a, g.x); return show(a, c) },
		"TurnsToMeet":  func(g arguments) string { a, c := impl.TurnsToMeet(g.a, g.n); return show(a, c) },
		"NumberText":   func(g arguments) string { return show(impl.NumberText(g.x)) },
		"ReadNumber":   func(g arguments) string { a, c := impl.ReadNumber(g.number); return show(a, c) },
		"TrainText":    func(g arguments) string { return show(impl.TrainText(g.a)) },
		"ReadTrain":    func(g arguments) string { a, c := impl.ReadTrain(g.text); return show(a, c) },
	}
}

// spacious returns a copy of a train with room behind it, which is filled.
func spacious(a impl.Train) impl.Train {
	wide := make(impl.Train, len(a), len(a)+12)
	copy(wide, a)
	rest := wide[len(a):cap(wide)]
	for i := range rest {
		rest[i] = impl.Pair{Driver: 77, Driven: 88, Loss: 0.125}
	}
	return wide
}

// whole shows a train with what is behind it.
func whole(a impl.Train) string { return show(a, a[:cap(a)]) }

func pickArguments(p *picker, good, bad []impl.Train) arguments {
	numbers := []float32{0, negZero, tiny, -tiny, 1.0 / 16, 0.5, 1, above(1), 2, -3, 64, 1048576, above(1048576), -1048576, inf, -inf, nan, otherNaN}
	indices := []int64{0, 1, 2, 3, 7, 8, 12, 200, 201, -1, math.MinInt64, math.MaxInt64}
	texts := []string{"", "3f800000", "7fc00000", "ffc00000", "12/48:3f000000", "12/48:3f000000 20/10:80000000", "12/48:3f000000 ", "\xff"}
	train := func() impl.Train {
		if p.below(3) == 0 {
			return bad[p.below(len(bad))]
		}
		return good[p.below(len(good))]
	}
	return arguments{
		a: train(), b: train(),
		x: numbers[p.below(len(numbers))], y: numbers[p.below(len(numbers))],
		n:      indices[p.below(len(indices))],
		number: texts[p.below(len(texts))], text: texts[p.below(len(texts))],
	}
}

// Promise 1: every function returns, modifies no argument, and returns equal
// results for equal arguments.
func TestPromise1OfWheels(t *testing.T) {
	p := picker(6)
	calls := wheelCalls()
	good, bad := someTrains(60), badTrains()
	for range 3000 {
		first := pickArguments(&p, good, bad)
		second := first
		second.a, second.b = spacious(first.a), spacious(first.b)
		a, b := whole(second.a), whole(second.b)
		expectEqual(t, calls, first, second)
		expect(t, "first argument", whole(second.a), a)
		expect(t, "second argument", whole(second.b), b)
	}
}

func TestPromise1OfLongTrains(t *testing.T) {
	long := repeated(impl.Pair{Driver: 12, Driven: 48}, 1000000)
	other := repeated(impl.Pair{Driver: 12, Driven: 48}, 1000000)
	g := arguments{a: long, b: other, x: 1, y: 1, number: strings.Repeat("0", 1000000), text: strings.Repeat("12/48:00000000 ", 66666)}
	for name, call := range wheelCalls() {
		once := call(g)
		expect(t, name, call(g), once)
	}
	if !impl.SameTrain(long, other) {
		t.Errorf("long trains are not the same")
	}
	other[999999].Loss = negZero
	if impl.SameTrain(long, other) || impl.SameTrain(long, long[:999999]) {
		t.Errorf("other long trains are the same")
	}
}

// trainResults are all trains that functions make of two trains.
func trainResults(a, b impl.Train) []impl.Train {
	var list []impl.Train
	for i := range a {
		with, _ := impl.WithLoss(a, int64(i), 0.75)
		list = append(list, with)
	}
	back, _ := impl.BackTrain(a)
	join, _ := impl.JoinTrains(a, b)
	same, _ := impl.JoinTrains(a, a)
	return append(list, back, join, same)
}

// Promise 1 and the convention of purity: results share no memory, neither
// with arguments nor with each other, also where the arguments have room.
func TestResultsAreNewMemory(t *testing.T) {
	p := picker(7)
	for n := 1; n <= 4; n++ {
		a, b := spacious(p.train(n)), spacious(p.train(4))
		before := whole(a) + whole(b)
		results := trainResults(a, b)
		wanted := make([]string, len(results))
		for i, r := range results {
			wanted[i] = show(r)
		}
		for i, r := range results {
			expect(t, "a result that others were written over", show(r), wanted[i])
			clear(r[:cap(r)])
			expect(t, "arguments of a result that is written over", whole(a)+whole(b), before)
		}
		results = trainResults(a, b)
		clear(a[:cap(a)])
		clear(b[:cap(b)])
		for i, r := range results {
			expect(t, "a result whose arguments are written over", show(r), wanted[i])
		}
	}
}

func TestListsAreNewMemory(t *testing.T) {
	a := impl.Train{{Driver: 12, Driven: 48, Loss: 0.5}, {Driver: 20, Driven: 10}}
	lists := func() [][]float32 {
		speeds, _ := impl.SpeedsOf(a, 8)
		torques, _ := impl.TorquesOf(a, 3)
		powers, _ := impl.PowersOf(a, 8, 3)
		distances, _ := impl.DistancesOf(a, 2)
		return [][]float32{speeds, torques, powers, distances}
	}
	want := [][]float32{{8, -2, 4}, {3, -6, 3}, {24, 12, 12}, {60, 30}}
	first := lists()
	for _, list := range first {
		clear(list[:cap(list)])
	}
	expect(t, "lists", show(lists()), show(want))
	read, _ := impl.ReadTrain("12/48:3f000000")
	clear(read)
	read, _ = impl.ReadTrain("12/48:3f000000")
	expect(t, "ReadTrain", show(read), show(impl.Train{pairOf(12, 48, 0.5)}))
}

// Promise 2: a train that is driven back twice is as it was.
func TestPromise2BackTwice(t *testing.T) {
	for _, a := range someTrains(1000) {
		back, one := impl.BackTrain(a)
		again, two := impl.BackTrain(back)
		if one != 0 || two != 0 || !impl.ValidTrain(back) || !impl.SameTrain(again, a) {
			t.Errorf("%v driven back twice is %v", a, again)
		}
		for i, p := range a {
			q := back[len(a)-1-i]
			if p.Driver != q.Driven || p.Driven != q.Driver || !impl.SameNumber(p.Loss, q.Loss) {
				t.Errorf("%v driven back is %v", a, back)
			}
		}
		num, den, _ := impl.RatioOf(a)
		backNum, backDen, _ := impl.RatioOf(back)
		expect(t, "ratio driven back", show(backNum, backDen), show(den, num))
	}
}

// Promise 2: the ratio of joined trains is the product of both.
func TestPromise2Joined(t *testing.T) {
	p := picker(8)
	for range 1000 {
		n := 1 + p.below(7)
		a, b := p.train(n), p.train(1+p.below(8-n))
		join, code := impl.JoinTrains(a, b)
		if code != 0 {
			t.Fatalf("JoinTrains of %v and %v: %v", a, b, code)
		}
		num1, den1, _ := impl.RatioOf(a)
		num2, den2, _ := impl.RatioOf(b)
		want := new(big.Rat).Mul(big.NewRat(num1, den1), big.NewRat(num2, den2))
		num, den, code := impl.RatioOf(join)
		expect(t, "ratio of joined trains", show(num, den, code), show(want.Num(), want.Denom(), 0))
	}
}

// Promise 3: no power is made. Where the quotients are no powers of 2 they are
// rounded, so that a power may be greater than before by some last bits.
func TestPromise3NoPowerIsMade(t *testing.T) {
	p := picker(9)
	for _, a := range someTrains(2000) {
		speed, torque := float32(1+p.below(1<<20)), float32(1+p.below(1<<20))
		powers, code := impl.PowersOf(a, speed, torque)
		if code != 0 || len(powers) != len(a)+1 {
			t.Fatalf("PowersOf %v: %v %v", a, powers, code)
		}
		for i := range a {
			if powers[i+1] < 0 || float64(powers[i+1]) > float64(powers[i])*(1+1e-6) {
				t.Errorf("%v makes power: %v", a, powers)
			}
		}
		part, _ := impl.EfficiencyOf(a)
		if !isPart(part) {
			t.Errorf("%v has the efficiency %v", a, part)
		}
		left := float64(part) * float64(speed) * float64(torque)
		if math.Abs(left-float64(powers[len(a)])) > 1e-5*left {
			t.Errorf("%v leaves %v of %v: %v", a, part, powers[0], powers[len(a)])
		}
	}
}

func TestPromise3PowersOfTwo(t *testing.T) {
	p := picker(10)
	for range 1000 {
		a := p.train(1 + p.below(8))
		for i := range a {
			a[i].Driver, a[i].Driven = int16(6)<<p.below(6), int16(6)<<p.below(6)
		}
		speed, torque := float32(p.below(2048)-1024), float32(1+p.below(1024))
		powers, _ := impl.PowersOf(a, speed, torque)
		for i := range a {
			if math.Abs(float64(powers[i+1])) > math.Abs(float64(powers[i])) {
				t.Errorf("%v makes power: %v", a, powers)
			}
		}
	}
}

// Promise 3: parts that are lost are lost.
func TestPromise3Lost(t *testing.T) {
	p := picker(11)
	for _, a := range someTrains(1000) {
		speed, torque := float32(1+p.below(1<<20)), float32(1+p.below(1<<20))
		pair := p.below(len(a))
		less, _ := impl.WithLoss(a, int64(pair), a[pair].Loss/2)
		none, _ := impl.WithLoss(a, int64(pair), 0)
		all, _ := impl.WithLoss(a, int64(pair), 1)
		lost, _ := impl.LostPower(a, speed, torque)
		lostLess, _ := impl.LostPower(less, speed, torque)
		lostNone, _ := impl.LostPower(none, speed, torque)
		lostAll, _ := impl.LostPower(all, speed, torque)
		if lostNone > lostLess || lostLess > lost || lost > lostAll {
			t.Errorf("%v loses less with more loss of %v: %v %v %v %v", a, pair, lostNone, lostLess, lost, lostAll)
		}
		powers, _ := impl.PowersOf(all, speed, torque)
		for i, power := range powers {
			if i > pair && power != 0 {
				t.Errorf("%v has power behind the pair %v: %v", all, pair, powers)
			}
		}
		expect(t, "all lost", show(lostAll), show(powers[0]))
		part, _ := impl.EfficiencyOf(all)
		expect(t, "no efficiency", show(part), show(0))
	}
}

func TestPromise3LostExactly(t *testing.T) {
	a := impl.Train{pairOf(12, 48, 0.5), pairOf(20, 10, 0.25), pairOf(10, 10, 0)}
	powers, _ := impl.PowersOf(a, 8, 4)
	lost, _ := impl.LostPower(a, 8, 4)
	part, _ := impl.EfficiencyOf(a)
	expect(t, "lost", show(powers, lost, part), show([]float32{32, 16, 12, 12}, 20, 0.375))
	whole := impl.Train{pairOf(12, 48, 0), pairOf(20, 10, negZero)}
	lost, _ = impl.LostPower(whole, 8, 3)
	part, _ = impl.EfficiencyOf(whole)
	expect(t, "nothing lost", show(lost, part), show(0, 1))
}
