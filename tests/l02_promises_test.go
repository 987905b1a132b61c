package tests

import (
	"math"
	"slices"
	"strings"
	"testing"

	"loop.example/g01344/impl"
)

// beltArguments has one of each kind that a function of chapter 2 takes.
type beltArguments struct {
	a, b    impl.Belt
	x, y    float32
	list    []impl.Belt
	numbers []float32
	text    string
}

// beltCalls tells for each function of chapter 2 what it returns.
func beltCalls() map[string]func(beltArguments) string {
	return map[string]func(beltArguments) string{
		"ValidBelt":       func(g beltArguments) string { return show(impl.ValidBelt(g.a)) },
		"SameBelt":        func(g beltArguments) string { return show(impl.SameBelt(g.a, g.b)) },
		"LengthOf":        func(g beltArguments) string { a, c := impl.LengthOf(g.a); return show(a, c) },
		"WrapOf":          func(g beltArguments) string { a, c := impl.WrapOf(g.a); return show(a, c) },
		"GripOf":          func(g beltArguments) string { a, c := impl.GripOf(g.a); return show(a, c) },
		"PullOf":          func(g beltArguments) string { a, c := impl.PullOf(g.a, g.x); return show(a, c) },
		"TorqueOf":        func(g beltArguments) string { a, c := impl.TorqueOf(g.a, g.x); return show(a, c) },
		"SlipFor":         func(g beltArguments) string { a, c := impl.SlipFor(g.a, g.x, g.y); return show(a, c) },
		"SpeedOut":        func(g beltArguments) string { a, c := impl.SpeedOut(g.a, g.x, g.y); return show(a, c) },
		"BeltsNeeded":     func(g beltArguments) string { a, c := impl.BeltsNeeded(g.a, g.x, g.y); return show(a, c) },
		"StretchedLength": func(g beltArguments) string { a, c := impl.StretchedLength(g.a, g.x, g.y); return show(a, c) },
		"ApartFor":        func(g beltArguments) string { a, c := impl.ApartFor(g.a, g.x); return show(a, c) },
		"RadiusFor":       func(g beltArguments) string { a, c := impl.RadiusFor(g.a, g.x, g.y); return show(a, c) },
		"ConeFor":         func(g beltArguments) string { a, c := impl.ConeFor(g.a, g.numbers); return show(a, c) },
		"SpeedsThrough":   func(g beltArguments) string { a, c := impl.SpeedsThrough(g.list, g.x); return show(a, c) },
		"LongestBelt":     func(g beltArguments) string { a, b, c := impl.LongestBelt(g.list); return show(a, b, c) },
		"TurnBelt":        func(g beltArguments) string { a, c := impl.TurnBelt(g.a); return show(a, c) },
		"BeltText":        func(g beltArguments) string { return show(impl.BeltText(g.a)) },
		"ReadBelt":        func(g beltArguments) string { a, c := impl.ReadBelt(g.text); return show(a, c) },
	}
}

func pickBeltArguments(p *picker, good, bad []impl.Belt) beltArguments {
	numbers := []float32{0, negZero, tiny, -tiny, leastRadius, 0.5, 1, above(1), 2, -3, 51.09375, 100, 1024, 5000, 65536, 140000, plainest, above(plainest), -plainest, inf, -inf, nan, otherNaN}
	texts := []string{"", "40800000 40000000 41800000 3e800000 open", "40800000 40000000 41800000 3e800000 crossed", "40800000 40000000 41800000 3e800000 ", "\xff"}
	belt := func(badOnes int) impl.Belt {
		if p.below(100) < badOnes {
			return bad[p.below(len(bad))]
		}
		return good[p.below(len(good))]
	}
	g := beltArguments{
		a: belt(30), b: belt(30),
		x: numbers[p.below(len(numbers))], y: numbers[p.below(len(numbers))],
		text: texts[p.below(len(texts))],
	}
	for range p.below(15) {
		g.list = append(g.list, belt(2))
		g.numbers = append(g.numbers, p.between(leastRadius, 2))
	}
	return g
}

// Promise 1: every function returns, modifies no argument, and returns equal
// results for equal arguments.
func TestPromise1OfBelts(t *testing.T) {
	p := picker(33)
	calls := beltCalls()
	good, bad := someBelts(60), badBelts()
	for range 3000 {
		first := pickBeltArguments(&p, good, bad)
		second := first
		second.list = roomy(first.list, beltOf(77, 88, 999, 1))
		second.numbers = roomy(first.numbers, 77)
		list, numbers := all(second.list), all(second.numbers)
		expectEqual(t, calls, first, second)
		expect(t, "belts", all(second.list), list)
		expect(t, "numbers", all(second.numbers), numbers)
	}
}

func TestPromise1OfLongLists(t *testing.T) {
	list := slices.Repeat([]impl.Belt{exampleBelt()}, 1000000)
	numbers := slices.Repeat([]float32{4}, 1000000)
	g := beltArguments{a: exampleBelt(), b: exampleBelt(), x: 51, y: 51, list: list, numbers: numbers, text: strings.Repeat("40800000 ", 111111)}
	for name, call := range beltCalls() {
		once := call(g)
		expect(t, name, call(g), once)
	}
	_, one := impl.ConeFor(exampleBelt(), numbers)
	_, two := impl.SpeedsThrough(list, 1)
	expect(t, "long lists", show(one, two), show(impl.ErrLimit, impl.ErrLimit))
	for _, at := range []int{999999, 500000, 1, 0} {
		list[at].Apart = 17
		index, length, code := impl.LongestBelt(list)
		expect(t, "LongestBelt", show(index, length, code), show(at, wantLength(list[at]), 0))
	}
	list[999999].Apart = 5
	index, length, code := impl.LongestBelt(list)
	expect(t, "a bad belt at last", show(index, length, code), show(0, 0, impl.ErrInvalid))
}

// Promise 1 and the convention of purity: results share no memory, neither
// with arguments nor with each other.
func TestBeltListsAreNewMemory(t *testing.T) {
	b := exampleBelt()
	radii := roomy([]float32{4, 2, 3}, 77)
	list := roomy([]impl.Belt{b, crossed(b)}, b)
	results := func() [][]float32 {
		cone, _ := impl.ConeFor(b, radii)
		speeds, _ := impl.SpeedsThrough(list, 3)
		return [][]float32{cone, speeds}
	}
	first, second := results(), results()
	wanted, arguments := show(first), all(radii)+all(list)
	for _, result := range first {
		clear(result[:cap(result)])
	}
	expect(t, "results of the same arguments", show(second), wanted)
	expect(t, "arguments of results that are written over", all(radii)+all(list), arguments)
	clear(radii[:cap(radii)])
	clear(list[:cap(list)])
	expect(t, "results whose arguments are written over", show(second), wanted)
}

// Promise 4: a belt that is turned has the same length, nearly.
func TestPromise4Turned(t *testing.T) {
	for _, b := range someBelts(3000) {
		turned, code := impl.TurnBelt(b)
		again, _ := impl.TurnBelt(turned)
		if code != 0 || !impl.ValidBelt(turned) || !impl.SameBelt(again, b) {
			t.Errorf("%+v is turned to %+v and back to %+v", b, turned, again)
		}
		length, one := impl.LengthOf(b)
		other, two := impl.LengthOf(turned)
		if one != 0 || two != 0 || !(length > 0) || math.Abs(float64(length)-float64(other)) > 1e-6*float64(length) {
			t.Errorf("%+v is %v long, and turned %v", b, length, other)
		}
		wrap, _ := impl.WrapOf(b)
		otherWrap, _ := impl.WrapOf(turned)
		expect(t, "wrap of a belt that is turned", show(otherWrap), show(wrap))
	}
}

// Promise 4: twice the tension pulls no less.
func TestPromise4TwiceTheTension(t *testing.T) {
	p := picker(34)
	for _, b := range someBelts(3000) {
		for _, tight := range []float32{0, negZero, tiny, 2 * tiny, 3 * tiny, 7 * tiny, 1, plainest / 2, p.tension() / 2} {
			once, one := impl.PullOf(b, tight)
			twice, two := impl.PullOf(b, 2*tight)
			if one != 0 || two != 0 || !(once >= 0) || !(twice >= once) {
				t.Errorf("%+v pulls %v at %v, and %v at twice of it", b, once, tight, twice)
			}
			torque, three := impl.TorqueOf(b, tight)
			torques, four := impl.TorqueOf(b, 2*tight)
			if three != 0 || four != 0 || !(torque >= 0) || !(torques >= torque) {
				t.Errorf("%+v has the torque %v at %v, and %v at twice of it", b, torque, tight, torques)
			}
		}
		pull, code := impl.PullOf(b, 2*above(plainest/2))
		expect(t, "twice too much", show(pull, code), show(0, impl.ErrRange))
	}
}

// Promise 4 is kept with pulls that are none only where nothing grips.
func TestPromise4Pulls(t *testing.T) {
	for _, b := range someBelts(1000) {
		pull, _ := impl.PullOf(b, 1000)
		if b.Grip >= 1.0/1024 && !(pull > 0) || b.Grip == 0 && pull != 0 {
			t.Errorf("%+v pulls %v", b, pull)
		}
	}
}

// Promise 5: a distance that is found makes the belt as long as told, nearly,
// and no longer.
func TestPromise5(t *testing.T) {
	p := picker(35)
	for _, b := range someBelts(1500) {
		lengthWith := withApart(b)
		least, most := lengthWith(sum(b.A, b.B)), lengthWith(greatestApart)
		lengths := []float32{least, above(least), most, below(most), wantLength(b)}
		for range 20 {
			lengths = append(lengths, p.between(least, most))
		}
		for _, length := range lengths {
			apart, code := impl.ApartFor(b, length)
			found := b
			found.Apart = apart
			reached, lengthCode := impl.LengthOf(found)
			if code != 0 || lengthCode != 0 || reached > length || float64(reached) < float64(length)*(1-2e-6) {
				t.Errorf("ApartFor %+v and %v is %v (%v), which makes it %v long (%v)", b, length, apart, code, reached, lengthCode)
			}
		}
	}
}

// Promise 5, where there is no such distance, or no belt or length at all.
func TestPromise5NotFound(t *testing.T) {
	for _, b := range someBelts(500) {
		lengthWith := withApart(b)
		least, most := lengthWith(sum(b.A, b.B)), lengthWith(greatestApart)
		for _, length := range []float32{0, negZero, least / 2, below(least), above(most), 2 * most, plainest} {
			apart, code := impl.ApartFor(b, length)
			expect(t, "ApartFor", show(apart, code), show(0, impl.ErrNotFound))
		}
		for _, length := range notSizes {
			apart, code := impl.ApartFor(b, length)
			expect(t, "ApartFor", show(apart, code), show(0, impl.ErrRange))
		}
	}
	for _, b := range []impl.Belt{beltOf(below(leastRadius), 2, 16, 0), beltOf(4, above(greatestRadius), 16, 0), beltOf(nan, 2, 16, 0), beltOf(inf, inf, inf, 0), beltOf(4, 2, 16, -tiny), beltOf(4, 2, 16, nan)} {
		for _, length := range []float32{51, 0, -1, nan} {
			apart, code := impl.ApartFor(b, length)
			expect(t, "ApartFor", show(apart, code), show(0, impl.ErrInvalid))
		}
	}
}

// Promise 5 for radii, which are found likewise: the belt is no longer, and as
// long, nearly, where a radius can make it so.
func TestPromise5OfRadii(t *testing.T) {
	p := picker(36)
	for _, b := range someBelts(1500) {
		high := min(greatestRadius, difference(b.Apart, b.A))
		if high < leastRadius {
			// The difference was rounded down: no radius fits, not even B.
			continue
		}
		lengthWith := withRadii(b, b.A)
		for _, length := range []float32{wantLength(b), lengthWith(leastRadius), lengthWith(high), p.between(lengthWith(leastRadius), lengthWith(high))} {
			radius, code := impl.RadiusFor(b, b.A, length)
			reached := lengthWith(radius)
			if code != 0 || reached > length || float64(reached) < float64(length)*(1-2e-6) {
				t.Errorf("RadiusFor %+v and %v is %v (%v), which makes it %v long", b, length, radius, code, reached)
			}
		}
	}
}

// Belts on the steps of a cone are as long as the first one, nearly.
func TestPromise5OfCones(t *testing.T) {
	for _, b := range []impl.Belt{exampleBelt(), crossed(exampleBelt()), beltOf(100, 50, 1000, 0), crossed(beltOf(100, 50, 1000, 0))} {
		length, _ := impl.LengthOf(b)
		radii := []float32{b.A / 4, b.A / 2, b.A, b.A * 5 / 4}
		cone, code := impl.ConeFor(b, radii)
		if code != 0 || len(cone) != len(radii) {
			t.Fatalf("ConeFor %+v: %v %v", b, cone, code)
		}
		for i, a := range radii {
			step := b
			step.A, step.B = a, cone[i]
			reached, code := impl.LengthOf(step)
			if code != 0 || reached > length || float64(reached) < float64(length)*(1-1e-6) {
				t.Errorf("the step %+v of %+v is %v long (%v), not %v", step, b, reached, code, length)
			}
		}
	}
}
