package tests

import (
	"math"
	"math/cmplx"
	"slices"
	"strings"
	"testing"

	"loop.example/g01344/impl"
)

// tremblingArguments has one of each kind that a function of chapter 7 takes.
type tremblingArguments struct {
	a, b       complex64
	x, y       float32
	turn       int64
	list, more []impl.Weight
	readings   [8]float32
	swings     [8]complex64
	line       []impl.Disc
	text       string
}

// tremblingCalls tells for each function of chapter 7 what it returns.
func tremblingCalls() map[string]func(tremblingArguments) string {
	return map[string]func(tremblingArguments) string{
		"SamePoint":     func(g tremblingArguments) string { return show(impl.SamePoint(g.a, g.b)) },
		"IsPoint":       func(g tremblingArguments) string { return show(impl.IsPoint(g.a)) },
		"PlusPoint":     func(g tremblingArguments) string { return show(impl.PlusPoint(g.a, g.b)) },
		"TimesPoint":    func(g tremblingArguments) string { return show(impl.TimesPoint(g.a, g.b)) },
		"PartOf":        func(g tremblingArguments) string { return show(impl.PartOf(g.a, g.x)) },
		"SquareOf":      func(g tremblingArguments) string { return show(impl.SquareOf(g.a)) },
		"PlaceOf":       func(g tremblingArguments) string { a, c := impl.PlaceOf(g.turn); return show(a, c) },
		"ValidWeights":  func(g tremblingArguments) string { return show(impl.ValidWeights(g.list)) },
		"PullOfWeights": func(g tremblingArguments) string { a, c := impl.PullOfWeights(g.list); return show(a, c) },
		"BalanceAt":     func(g tremblingArguments) string { a, b, c := impl.BalanceAt(g.list, g.a); return show(a, b, c) },
		"BalanceWith": func(g tremblingArguments) string {
			a, b, c := impl.BalanceWith(g.list, g.a, g.b)
			return show(a, b, c)
		},
		"LeftOver":       func(g tremblingArguments) string { a, c := impl.LeftOver(g.list, g.more); return show(a, c) },
		"BestPlaces":     func(g tremblingArguments) string { a, b, d, c := impl.BestPlaces(g.list); return show(a, b, d, c) },
		"SwingsOf":       func(g tremblingArguments) string { a, c := impl.SwingsOf(g.readings); return show(a, c) },
		"ReadingsFrom":   func(g tremblingArguments) string { a, c := impl.ReadingsFrom(g.swings); return show(a, c) },
		"StrongestSwing": func(g tremblingArguments) string { a, b, c := impl.StrongestSwing(g.readings); return show(a, b, c) },
		"ValidLine":      func(g tremblingArguments) string { return show(impl.ValidLine(g.line)) },
		"AnswerOf":       func(g tremblingArguments) string { a, b, c := impl.AnswerOf(g.line, g.x); return show(a, b, c) },
		"CrossingsOf":    func(g tremblingArguments) string { a, c := impl.CrossingsOf(g.line, g.x); return show(a, c) },
		"LoneSpeed":      func(g tremblingArguments) string { a, c := impl.LoneSpeed(g.line, g.x, g.y); return show(a, c) },
		"PointText":      func(g tremblingArguments) string { return show(impl.PointText(g.a)) },
		"ReadPoint":      func(g tremblingArguments) string { a, c := impl.ReadPoint(g.text); return show(a, c) },
	}
}

func pickTremblingArguments(p *picker) tremblingArguments {
	points := []complex64{0, complex(-1, 0), complex(0, -1), complex(1, 1), complex(negZero, 2), p.point(), p.anyComplex()}
	squares := []float32{0, negZero, tiny, 0.5, 1, 4, 16, 1024, plainest}
	texts := []string{"", "3f800000 c0000000", "7fc00000 80000000", "7fc00001 80000000", "3f800000", "\xff"}
	g := tremblingArguments{
		a: mostly(p, points, notPoints()), b: mostly(p, points, notPoints()),
		x: mostly(p, squares, notSizes), y: mostly(p, squares, notSizes),
		turn: mostly(p, []int64{0, 1, 2, 3, 4, 5, 6, 7}, []int64{-1, 8, math.MaxInt64, math.MinInt64}),
		list: mostly(p, someWeights(40), badWeights()), more: mostly(p, someWeights(40), badWeights()),
		readings: p.readings(oneOf(p, []float32{1, plainest})), swings: oneOf(p, someSwings(20)),
		line: mostly(p, someLines(40), badLines()), text: oneOf(p, texts),
	}
	if p.below(5) == 0 {
		g.readings[p.below(8)], g.swings[p.below(8)] = oneOf(p, notPlains), oneOf(p, notPoints())
	}
	return g
}

// Promise 1: every function returns, modifies no argument, and returns equal
// results for equal arguments.
func TestPromise1OfTrembling(t *testing.T) {
	p := picker(151)
	calls := tremblingCalls()
	for range 1000 {
		first := pickTremblingArguments(&p)
		second := first
		second.list, second.more = roomy(first.list, weightOf(7, 7, 7)), roomy(first.more, weightOf(7, 7, 7))
		second.line = roomy(first.line, discOf(7, 7))
		shown := func() string { return all(second.list) + all(second.more) + all(second.line) }
		before := shown()
		expectEqual(t, calls, first, second)
		expect(t, "arguments", shown(), before)
	}
}

// Promise 1, also where several calls are made at once.
func TestPromise1OfTremblingAtOnce(t *testing.T) {
	p := picker(152)
	for range 50 {
		expectAtOnce(t, tremblingCalls(), pickTremblingArguments(&p))
	}
}

func TestPromise1OfManyWeights(t *testing.T) {
	g := tremblingArguments{
		a: complex(-1, 0), b: complex(0, -1), x: 1, y: 7, list: evenWeights(1000000, 1, 1, 1), more: evenWeights(1000000, 1, 1, 1),
		line: evenLine(1000000, 1, 1), text: strings.Repeat("3f800000 ", 111111),
	}
	for name, call := range tremblingCalls() {
		once := call(g)
		expect(t, name+" of many", call(g), once)
	}
	_, c1 := impl.PullOfWeights(g.list)
	_, _, c2 := impl.BalanceAt(g.list, g.a)
	_, _, c3 := impl.BalanceWith(g.list, g.a, g.b)
	_, c4 := impl.LeftOver(g.list, nil)
	_, c5 := impl.LeftOver(nil, g.more)
	_, _, _, c6 := impl.BestPlaces(g.list)
	_, _, c7 := impl.AnswerOf(g.line, g.x)
	_, c8 := impl.CrossingsOf(g.line, g.x)
	_, c9 := impl.LoneSpeed(g.line, g.x, g.y)
	expect(t, "many", show(c1, c2, c3, c4, c5, c6, c7, c8, c9), show(1, 1, 1, 1, 1, 1, 1, 1, 1))
}

// Promise 1 and the convention of purity: results share no memory, neither
// with arguments nor with each other.
func TestAnswersAreNewMemory(t *testing.T) {
	line := roomy(exampleLine(), discOf(7, 7))
	before := all(line)
	swings, twists, _ := impl.AnswerOf(line, 4)
	againSwings, againTwists, _ := impl.AnswerOf(line, 4)
	clear(swings[:cap(swings)])
	expect(t, "twists", show(twists), show([]float32{-4, 0}))
	clear(twists[:cap(twists)])
	expect(t, "results of the same arguments", show(againSwings, againTwists), show([]float32{1, -1}, []float32{-4, 0}))
	expect(t, "an argument of results that are written over", all(line), before)
	clear(line[:cap(line)])
	expect(t, "results whose argument is written over", show(againSwings, againTwists), show([]float32{1, -1}, []float32{-4, 0}))
}

// sizeOfPoint is how far a point is away from the middle.
func sizeOfPoint(a complex64) float64 { return cmplx.Abs(complex128(a)) }

// Promise 16: a weight that balances makes the pull no greater, nearly. What is
// rounded is a small part of the pull, and of the least numbers.
func TestPromise16(t *testing.T) {
	balanced := 0
	for _, c := range someBalances(30000) {
		if !canBe(c.a) {
			continue
		}
		pull, one := impl.PullOfWeights(c.list)
		mass, left, two := impl.BalanceAt(c.list, c.a)
		near := 2e-6*sizeOfPoint(pull) + 1e-38
		if one != 0 || two != 0 || !(mass >= 0) || math.Signbit(float64(mass)) || sizeOfPoint(left) > sizeOfPoint(pull)+near {
			t.Errorf("%v pull %v, and with %v %v (%v, %v)", c, pull, mass, left, one, two)
		}
		// Neither does any other mass leave less.
		for _, other := range []float32{0, product(mass, 0.5), product(mass, 0.99), product(mass, 1.01), product(mass, 2), sum(mass, 1)} {
			with := wantPlus(pull, wantPart(c.a, other))
			if sizeOfPoint(with) < sizeOfPoint(left)-near {
				t.Errorf("%v leave %v with %v, but %v with %v", c, left, mass, with, other)
			}
		}
		if mass > 0 {
			balanced++
		}
		if mass <= plainest && len(c.list) < 20 {
			over, three := impl.LeftOver(c.list, []impl.Weight{{At: c.a, Mass: mass}})
			expect(t, "what is left "+show(c), show(over, three), show(impl.SquareOf(left), 0))
		}
	}
	if balanced < 10000 {
		t.Errorf("only %v weights balance", balanced)
	}
}

// Promise 16: a weight just opposite the pull leaves nothing, nearly, and one
// that does not lie opposite it at all has no mass.
func TestPromise16OfOppositeWeights(t *testing.T) {
	p := picker(153)
	for _, list := range someWeights(10000) {
		pull := wantPullOf(list)
		size := sizeOfPoint(pull)
		if size == 0 || size > 1e9 {
			continue
		}
		part := float32(-float64(p.between(1, 64)) / size)
		at := wantPart(pull, part)
		if !canBe(at) {
			continue
		}
		_, left, one := impl.BalanceAt(list, at)
		if one != 0 || sizeOfPoint(left) > 2e-6*size+1e-38 {
			t.Errorf("%v pull %v, and with a weight at %v still %v", list, pull, at, left)
		}
		same, after, two := impl.BalanceAt(list, wantPart(at, -1))
		expect(t, "a weight on the same side", show(same, after, two), show(0, pull, 0))
	}
}

// Promise 16: two weights leave nothing, nearly. The less far aside from each
// other they lie, the more is left of what is rounded.
func TestPromise16OfTwoWeights(t *testing.T) {
	found, wide := 0, 0
	for _, c := range someBalances(40000) {
		for _, b := range []complex64{c.b, complex(-real(c.b), imag(c.b)), complex(-real(c.b), -imag(c.b)), complex(real(c.b), -imag(c.b))} {
			one, two, code := impl.BalanceWith(c.list, c.a, b)
			if code != 0 {
				continue
			}
			if !(one >= 0 && one <= plainest && two >= 0 && two <= plainest) {
				t.Errorf("%v and %v are balanced with %v and %v", c, b, one, two)
			}
			found++
			pull := wantPullOf(c.list)
			left := complex128(pull) + complex128(wantPart(c.a, one)) + complex128(wantPart(b, two))
			slope := sizeOfPoint(c.a) * sizeOfPoint(b) / math.Abs(float64(balanceCase{c.list, c.a, b}.det()))
			if cmplx.Abs(left) > 2e-6*slope*slope*sizeOfPoint(pull)+1e-35 {
				t.Errorf("%v and %v: with %v and %v %v is left of %v", c, b, one, two, left, pull)
			}
			if slope < 4 && sizeOfPoint(pull) > 0 {
				wide++
			}
			if len(c.list) <= 18 {
				over, code := impl.LeftOver(c.list, []impl.Weight{{At: c.a, Mass: one}, {At: b, Mass: two}})
				if code != 0 || float64(over) > 4e-12*math.Pow(slope, 4)*math.Pow(sizeOfPoint(pull), 2)+1e-35 {
					t.Errorf("%v and %v: with %v and %v %v is left over of %v (%v)", c, b, one, two, over, pull, code)
				}
			}
		}
	}
	if found < 10000 || wide < 5000 {
		t.Errorf("only %v weights are balanced, %v of them from far aside", found, wide)
	}
}

// Promise 16 of places: the best two places leave nothing, nearly, and no other
// two take less mass.
func TestPromise16OfPlaces(t *testing.T) {
	found := 0
	for _, list := range someWeights(5000) {
		first, second, least, code := impl.BestPlaces(list)
		if code == 0 {
			a, one := impl.PlaceOf(first)
			b, two := impl.PlaceOf(second)
			atA, atB, three := impl.BalanceWith(list, a, b)
			expect(t, "the best places "+show(list), show(one, two, three, sum(atA, atB), first < second), show(0, 0, 0, least, true))
			left := complex128(wantPullOf(list)) + complex128(wantPart(a, atA)) + complex128(wantPart(b, atB))
			if cmplx.Abs(left) > 1e-5*sizeOfPoint(wantPullOf(list))+1e-38 {
				t.Errorf("%v: with %v at %v and %v at %v %v is left", list, atA, a, atB, b, left)
			}
			found++
		}
		for i := range int64(8) {
			for j := range i {
				a, _ := impl.PlaceOf(i)
				b, _ := impl.PlaceOf(j)
				atA, atB, one := impl.BalanceWith(list, a, b)
				if one == 0 && (code != 0 || sum(atA, atB) < least) {
					t.Errorf("%v take %v and %v at %v and %v, but at the best places %v (%v)", list, atA, atB, i, j, least, code)
				}
			}
		}
	}
	if found < 2000 {
		t.Errorf("only %v weights have best places", found)
	}
}

// Promise 16 of invalid arguments: nothing is balanced beside an error.
func TestPromise16OfErrors(t *testing.T) {
	for _, list := range append(badWeights(), exampleWeights()) {
		for _, a := range append(notPoints(), 0, complex(-1, 0), complex(1, 0), complex(tiny, 1.0/64)) {
			for _, b := range []complex64{complex(0, -1), complex(0, 1), 0, complex(inf, 0)} {
				mass, left, one := impl.BalanceAt(list, a)
				atA, atB, two := impl.BalanceWith(list, a, b)
				wantOne, wantTwo := 0, 0
				switch _, _, code := (balanceCase{list, a, b}).both(); {
				case !impl.ValidWeights(list):
					wantOne, wantTwo = impl.ErrInvalid, impl.ErrInvalid
				case !canBe(a):
					wantOne, wantTwo = impl.ErrRange, code
				default:
					wantTwo = code
				}
				expect(t, "errors "+show(list, a, b), show(one, two), show(wantOne, wantTwo))
				if wantOne != 0 {
					expect(t, "no mass", show(mass, left), show(0, complex64(0)))
				}
				if wantTwo != 0 {
					expect(t, "no masses", show(atA, atB), show(0, 0))
				}
			}
		}
	}
}

// mostOf is the greatest size of readings.
func mostOf(readings [8]float32) float64 {
	most := 0.0
	for _, a := range readings {
		most = max(most, math.Abs(float64(a)))
	}
	return most
}

// Promise 17: readings come back from their swings, nearly: the places lie not
// all on the circle, by about a ten-thousandth.
func TestPromise17(t *testing.T) {
	back := 0
	for _, readings := range someReadings(20000) {
		swings, one := impl.SwingsOf(readings)
		again, two := impl.ReadingsFrom(swings)
		if one != 0 {
			t.Fatalf("%v have no swings: %v", readings, one)
		}
		if slices.ContainsFunc(swings[:], func(a complex64) bool { return !impl.IsPoint(a) }) {
			expect(t, "swings that are too great "+show(readings), show(again, two), show([8]float32{}, impl.ErrRange))
			continue
		}
		back++
		most := mostOf(readings)
		for k, a := range again {
			if two != 0 || math.Abs(float64(a)-float64(readings[k])) > 3e-4*most+100*float64(tiny) {
				t.Errorf("%v have the swings %v, and come back as %v (%v)", readings, swings, again, two)
			}
		}
	}
	if back < 10000 {
		t.Errorf("only %v readings come back", back)
	}
}

// Promise 17 where no place with a slanting part matters: small readings that
// are whole numbers come back exactly.
func TestPromise17Exactly(t *testing.T) {
	p := picker(154)
	for range 5000 {
		var readings [8]float32
		for k := range 4 {
			// What is opposite is equal, so that only every other order swings.
			a := float32(p.below(2001) - 1000)
			readings[k], readings[k+4] = a, a
		}
		for k := 1; k < 8; k += 2 {
			readings[k] = readings[1]
		}
		swings, one := impl.SwingsOf(readings)
		again, two := impl.ReadingsFrom(swings)
		expect(t, "readings that come back", show(again, one, two), show(readings, 0, 0))
		for n := 1; n < 8; n += 2 {
			expect(t, "an order that does not swing", show(swings[n]), show(complex64(0)))
		}
	}
}

// Promise 17: the swings of orders that are opposite mirror each other, for
// readings are no points but numbers; and the strongest one is among them.
func TestPromise17OfOpposedOrders(t *testing.T) {
	for _, readings := range someReadings(5000) {
		swings, _ := impl.SwingsOf(readings)
		near := 1e-5*mostOf(readings) + 100*float64(tiny)
		for n := 1; n < 4; n++ {
			mirrored := complex(real(swings[8-n]), -imag(swings[8-n]))
			if cmplx.Abs(complex128(swings[n])-complex128(mirrored)) > near {
				t.Errorf("%v have the swings %v", readings, swings)
			}
		}
		order, most, code := impl.StrongestSwing(readings)
		if code != 0 || order < 1 || order > 4 || impl.SquareOf(swings[order]) != most {
			t.Fatalf("%v have the strongest swing %v, %v (%v)", readings, order, most, code)
		}
		for n := int64(1); n <= 4; n++ {
			if square := impl.SquareOf(swings[n]); square > most || square == most && n < order {
				t.Errorf("%v have the strongest swing %v, but %v is as strong", readings, order, n)
			}
		}
	}
}

// Promise 17 of invalid arguments: nothing swings beside an error.
func TestPromise17OfErrors(t *testing.T) {
	p := picker(155)
	for range 2000 {
		readings := p.readings(64)
		swings, _ := impl.SwingsOf(readings)
		k := p.below(8)
		readings[k], swings[k] = oneOf(&p, notPlains), oneOf(&p, notPoints())
		none, one := impl.SwingsOf(readings)
		nothing, two := impl.ReadingsFrom(swings)
		order, most, three := impl.StrongestSwing(readings)
		expect(t, "errors", show(none, one, nothing, two, order, most, three), show([8]complex64{}, 2, [8]float32{}, 2, 0, 0, 2))
	}
}

// Promise 18: a lone speed that is found lies between those between which it is
// looked for, and there the twist changes its sign.
func TestPromise18(t *testing.T) {
	found := 0
	for _, c := range someSpeeds(20000) {
		lone, code := impl.LoneSpeed(c.line, c.low, c.high)
		atLow, atHigh := signOf(wantTwist(c.line, c.low)), signOf(wantTwist(c.line, c.high))
		if (code == 0) != (atLow*atHigh == -1) || code != 0 && (code != impl.ErrNotFound || lone != 0) {
			t.Errorf("%v has the lone speed %v (%v), its twists having the signs %v and %v", c, lone, code, atLow, atHigh)
		}
		if code != 0 {
			continue
		}
		found++
		if !(lone >= c.low && lone < c.high) {
			t.Errorf("%v has the lone speed %v", c, lone)
		}
		_, twists, one := impl.AnswerOf(c.line, lone)
		if one != 0 || signOf(twists[len(twists)-1]) != atLow {
			t.Errorf("%v has the lone speed %v with the twists %v (%v)", c, lone, twists, one)
		}
		// No further than by the last halving, and roundings, it is no longer so.
		next := max(above(lone), float32(float64(lone)+float64(c.high-c.low)/(1<<39)))
		changes := false
		for square := lone; square <= next && !changes; square = above(square) {
			changes = signOf(wantTwist(c.line, square)) != atLow
		}
		if !changes {
			t.Errorf("%v has the lone speed %v, but the twist is as at %v up to %v", c, lone, c.low, next)
		}
	}
	if found < 5000 {
		t.Errorf("only %v lone speeds are found", found)
	}
}

// Promise 18 of two discs, whose lone speed is known: its square is the
// stiffness by both inertias.
func TestPromise18OfTwoDiscs(t *testing.T) {
	p := picker(156)
	for range 5000 {
		line := []impl.Disc{discOf(p.between(0.5, 64), p.between(1, 64)), discOf(p.between(0.5, 64), 1)}
		known := float64(line[0].Stiff) * (1/float64(line[0].Inertia) + 1/float64(line[1].Inertia))
		lone, code := impl.LoneSpeed(line, float32(known/8), float32(known*8))
		if code != 0 || math.Abs(float64(lone)-known) > 1e-5*known {
			t.Errorf("%v has the lone speed %v (%v), not %v", line, lone, code, known)
		}
		// There both discs swing against each other, but not where it is so slow
		// that the first one alone does not twist the shaft enough.
		before, one := impl.CrossingsOf(line, line[0].Stiff/line[0].Inertia/2)
		behind, two := impl.CrossingsOf(line, float32(known*2))
		expect(t, "crossings "+show(line), show(before, one, behind, two), show(0, 0, 1, 0))
		lower, one := impl.LoneSpeed(line, float32(known/8), float32(known/2))
		higher, two := impl.LoneSpeed(line, float32(known*2), float32(known*8))
		expect(t, "no lone speed "+show(line), show(lower, one, higher, two), show(0, 6, 0, 6))
	}
}

// Promise 18 of invalid arguments: no speed is found beside an error.
func TestPromise18OfErrors(t *testing.T) {
	for _, line := range append(badLines(), exampleLine()) {
		for _, low := range append([]float32{negZero, 0, 1, 3, 5}, notSizes...) {
			for _, high := range append([]float32{negZero, 0, 1, 3, 5, plainest}, notSizes...) {
				lone, code := impl.LoneSpeed(line, low, high)
				want := 0
				switch {
				case !impl.ValidLine(line):
					want = impl.ErrInvalid
				case !isSize(low) || !isSize(high) || !(low < high):
					want = impl.ErrRange
				case low == 0 || low == 5 || high <= 3:
					want = impl.ErrNotFound
				}
				expect(t, "the error of "+show(line, low, high), show(code), show(want))
				if want == 0 && !(lone >= low && lone < high) || want != 0 && lone != 0 {
					t.Errorf("%v has the lone speed %v between %v and %v", line, lone, low, high)
				}
			}
		}
	}
}
