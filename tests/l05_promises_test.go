package tests

import (
	"math"
	"math/big"
	"slices"
	"strings"
	"testing"

	"loop.example/g01344/impl"
)

// boxArguments has one of each kind that a function of chapter 5 takes.
type boxArguments struct {
	box    []int16
	x, y   float32
	a, b   int64
	choice impl.Choice
	text   string
}

// boxCalls tells for each function of chapter 5 what it returns.
func boxCalls() map[string]func(boxArguments) string {
	return map[string]func(boxArguments) string{
		"ValidBox":        func(g boxArguments) string { return show(impl.ValidBox(g.box)) },
		"OffBy":           func(g boxArguments) string { a, c := impl.OffBy(g.y, g.x); return show(a, c) },
		"FactorOfPair":    func(g boxArguments) string { a, c := impl.FactorOfPair(g.box, g.a, g.b); return show(a, c) },
		"FactorOfChoice":  func(g boxArguments) string { a, c := impl.FactorOfChoice(g.box, g.choice); return show(a, c) },
		"BestPair":        func(g boxArguments) string { a, b, d, c := impl.BestPair(g.box, g.x); return show(a, b, d, c) },
		"BestChoice":      func(g boxArguments) string { a, b, c := impl.BestChoice(g.box, g.x); return show(a, b, c) },
		"PairsWithin":     func(g boxArguments) string { a, c := impl.PairsWithin(g.box, g.x, g.y); return show(a, c) },
		"CountChoices":    func(g boxArguments) string { a, c := impl.CountChoices(g.box, g.x, g.y); return show(a, c) },
		"AllFactors":      func(g boxArguments) string { a, c := impl.AllFactors(g.box); return show(a, c) },
		"FactorsBetween":  func(g boxArguments) string { a, c := impl.FactorsBetween(g.box, g.y, g.x); return show(a, c) },
		"WidestStep":      func(g boxArguments) string { a, b, c := impl.WidestStep(g.box); return show(a, b, c) },
		"TrainFor":        func(g boxArguments) string { a, c := impl.TrainFor(g.box, g.choice); return show(a, c) },
		"ExactOf":         func(g boxArguments) string { a, c := impl.ExactOf(g.x); return show(a, c) },
		"ConvergentsOf":   func(g boxArguments) string { a, c := impl.ConvergentsOf(g.x, g.a); return show(a, c) },
		"NearestFraction": func(g boxArguments) string { a, c := impl.NearestFraction(g.x, g.a); return show(a, c) },
		"AddWheel":        func(g boxArguments) string { a, b, c := impl.AddWheel(g.box, g.x); return show(a, b, c) },
		"BoxText":         func(g boxArguments) string { return show(impl.BoxText(g.box)) },
		"ReadBox":         func(g boxArguments) string { a, c := impl.ReadBox(g.text); return show(a, c) },
	}
}

func pickBoxArguments(p *picker, good, bad [][]int16) boxArguments {
	targets := []float32{leastTarget, 0.25, 0.33333334, 0.375, 0.5, 0.75, 1, 1.75, 2, 10, greatestTarget}
	parts := []float32{0, negZero, tiny, 0.25, 0.5, below(1), 1}
	indices := []int64{0, 1, 2, 3, 8, 1000, 1000000}
	noIndices := append([]int64{1001, 1000001}, noWheels...)
	texts := []string{"20 30", "20 30 40 60", "6 7 8 9", "", "20", "20 30 ", "30 20", "020 30", "\xff"}
	wheel := func() int {
		return int(mostly(p, []int64{0, 1, 2, 3}, []int64{-1, 4, 24, math.MinInt16, math.MaxInt16}))
	}
	return boxArguments{
		box: mostly(p, good, bad), x: mostly(p, targets, notTargets), y: mostly(p, parts, append([]float32{-1, 2}, notPlains...)),
		a: mostly(p, indices, noIndices), b: mostly(p, indices, noIndices),
		choice: mostly(p, []impl.Choice{choiceOf(0, 1, 2, 3), choiceOf(3, 1, 2, 0), choiceOf(0, 2, 1, 3)}, []impl.Choice{{}, choiceOf(wheel(), wheel(), wheel(), wheel())}),
		text:   oneOf(p, texts),
	}
}

// Promise 1: every function returns, modifies no argument, and returns equal
// results for equal arguments.
func TestPromise1OfBoxes(t *testing.T) {
	p := picker(103)
	calls := boxCalls()
	good, bad := someBoxes(60, 8), badBoxes()
	for range 1000 {
		first := pickBoxArguments(&p, good, bad)
		second := first
		// This wheel would make a valid box of most, if it were taken in.
		second.box = roomy(first.box, 77)
		box := all(second.box)
		expectEqual(t, calls, first, second)
		expect(t, "the box", all(second.box), box)
	}
}

// Promise 1, also where several calls are made at once.
func TestPromise1OfBoxesAtOnce(t *testing.T) {
	p := picker(104)
	good, bad := someBoxes(40, 8), badBoxes()
	for range 50 {
		expectAtOnce(t, boxCalls(), pickBoxArguments(&p, good, bad))
	}
}

// Promise 1 of a box with as many wheels as there can be, and of one with more.
func TestPromise1OfGreatBoxes(t *testing.T) {
	calls := boxCalls()
	for _, count := range []int{23, 24, 25} {
		for _, g := range []boxArguments{{x: 0.7, y: 0.001}, {x: greatestTarget, y: 1}, {x: leastTarget, y: 0}} {
			g.choice, g.b = choiceOf(22, 0, 1, 21), 22
			g.a, g.box = 0, evenBox(20, 5, count)
			h := g
			h.box = roomy(g.box, 200)
			box := all(h.box)
			expectEqual(t, calls, g, h)
			expect(t, "the box", all(h.box), box)
		}
	}
}

func TestPromise1OfManyWheels(t *testing.T) {
	box := make([]int16, 1000000)
	for i := range box {
		box[i] = int16(min(6+i, 200))
	}
	g := boxArguments{box: box, x: 0.5, y: 0.25, a: 8, b: 999999, choice: choiceOf(0, 1, 2, 3), text: strings.Repeat("20 ", 333333)}
	for name, call := range boxCalls() {
		once := call(g)
		expect(t, name, call(g), once)
	}
	expectInvalidBox(t, box, 0.5, 0, 999999, choiceOf(0, 1, 2, 3))
	expectInvalidBox(t, box, nan, -1, 1000000, choiceOf(0, -1, 2, 3))
	expect(t, "many wheels", show(impl.ValidBox(box), impl.BoxText(box)), show(false, ""))
}

// Promise 1 and the convention of purity: results share no memory, neither
// with arguments nor with each other.
func TestResultsOfBoxesAreNewMemory(t *testing.T) {
	box := roomy([]int16{10, 20, 40, 80}, 77)
	results := func() []any {
		factors, one := impl.AllFactors(box)
		between, two := impl.FactorsBetween(box, 0, 10)
		pairs, three := impl.PairsWithin(box, 2, 1)
		train, four := impl.TrainFor(box, choiceOf(0, 1, 2, 3))
		list, five := impl.ConvergentsOf(0.375, 8)
		read, six := impl.ReadBox("10 20 40 80")
		expect(t, "codes", show(one, two, three, four, five, six), show(0, 0, 0, 0, 0, 0))
		return []any{factors, between, pairs, train, list, read}
	}
	first, second := results(), results()
	wanted, arguments := show(second...), all(box)
	for _, result := range first {
		overwrite(result)
		expect(t, "other results, and arguments, of a result that is written over", show(second...)+all(box), wanted+arguments)
	}
	expect(t, "results behind those that are written over", show(results()...), wanted)
	clear(box[:cap(box)])
	expect(t, "results whose argument is written over", show(second...), wanted)
}

// overwrite clears a result with what is behind it.
func overwrite(result any) {
	switch list := result.(type) {
	case []float32:
		clear(list[:cap(list)])
	case [][2]int64:
		clear(list[:cap(list)])
	case impl.Train:
		clear(list[:cap(list)])
	case []impl.Fraction:
		clear(list[:cap(list)])
	case []int16:
		clear(list[:cap(list)])
	}
}

// offOf tells by how much a factor is off a target, as the package does.
func offOf(t *testing.T, factor, target float32, code int64) float32 {
	t.Helper()
	off, offCode := impl.OffBy(factor, target)
	if code != 0 || offCode != 0 {
		t.Fatalf("the factor %v has the codes %v and %v", factor, code, offCode)
	}
	return off
}

// Promise 10: no pair of a box is off a target less than the best one, and no
// pair before it is off as little.
func TestPromise10OfPairs(t *testing.T) {
	for _, c := range someBoxCases(2000, 24) {
		a, b, least, code := impl.BestPair(c.box, c.target)
		best := [2]int64{a, b}
		at := slices.Index(wantPairs(c.box), best)
		if code != 0 || at < 0 {
			t.Fatalf("%v: the best pair is %v, %v (%v)", c, a, b, code)
		}
		for i, pair := range wantPairs(c.box) {
			factor, one := impl.FactorOfPair(c.box, pair[0], pair[1])
			off := offOf(t, factor, c.target, one)
			if off < least || off == least && i < at || pair == best && off != least {
				t.Errorf("%v: the pair %v is off by %v, the best one %v by %v", c, pair, off, best, least)
			}
		}
		expectNearPairs(t, c, best, least)
	}
}

// expectNearPairs expects that PairsWithin has the best pair first where nothing
// else is as near, and nothing where less is told.
func expectNearPairs(t *testing.T, c boxCase, best [2]int64, least float32) {
	t.Helper()
	if least > 1 {
		list, code := impl.PairsWithin(c.box, c.target, 1)
		expect(t, "far pairs "+show(c), show(len(list), code), show(0, 0))
		return
	}
	list, code := impl.PairsWithin(c.box, c.target, least)
	if code != 0 || len(list) == 0 || list[0] != best {
		t.Errorf("%v: %v are as near as the best pair %v (%v)", c, list, best, code)
	}
	if least > 0 {
		list, code = impl.PairsWithin(c.box, c.target, below(least))
		expect(t, "nearer pairs "+show(c), show(len(list), code), show(0, 0))
	}
}

// Promise 10: no choice is off less than the best choice, and no choice before
// it is off as little.
func TestPromise10OfChoices(t *testing.T) {
	tried := 0
	for _, c := range someBoxCases(150, 24) {
		if len(c.box) < 4 {
			continue
		}
		best, least, code := impl.BestChoice(c.box, c.target)
		choices := wantChoices(c.box)
		at := slices.Index(choices, best)
		if code != 0 || at < 0 {
			t.Fatalf("%v: the best choice is %v (%v)", c, best, code)
		}
		as := 0
		for i, choice := range choices {
			factor, one := impl.FactorOfChoice(c.box, choice)
			off := offOf(t, factor, c.target, one)
			if off < least || off == least && i < at || i == at && off != least {
				t.Errorf("%v: the choice %v is off by %v, the best one %v by %v", c, choice, off, best, least)
			}
			if off == least {
				as++
			}
		}
		expectNearChoices(t, c, least, as)
		tried++
	}
	if tried < 100 {
		t.Errorf("only %v boxes have choices", tried)
	}
}

// expectNearChoices expects that CountChoices has so many choices that are as near
// as the best one, and none that is nearer.
func expectNearChoices(t *testing.T, c boxCase, least float32, as int) {
	t.Helper()
	if least > 1 {
		count, code := impl.CountChoices(c.box, c.target, 1)
		expect(t, "far choices "+show(c), show(count, code), show(0, 0))
		return
	}
	count, code := impl.CountChoices(c.box, c.target, least)
	expect(t, "choices as near as the best one "+show(c), show(count, code), show(as, 0))
	if least > 0 {
		count, code = impl.CountChoices(c.box, c.target, below(least))
		expect(t, "nearer choices "+show(c), show(count, code), show(0, 0))
	}
}

// Promise 10 where quotients are equal: what is best comes first.
func TestPromise10OfEqualQuotients(t *testing.T) {
	for _, unit := range []int16{6, 8, 10} {
		box := evenBox(unit, unit, 20)
		for _, c := range []struct {
			target     float32
			pair, same [2]int64
		}{
			{0.5, [2]int64{0, 1}, [2]int64{9, 19}}, {2, [2]int64{1, 0}, [2]int64{19, 9}}, {0.75, [2]int64{2, 3}, [2]int64{14, 19}},
		} {
			a, b, off, one := impl.BestPair(box, c.target)
			factor, two := impl.FactorOfPair(box, c.same[0], c.same[1])
			expect(t, "the first one of equal pairs", show(a, b, off, factor, one, two), show(c.pair[0], c.pair[1], 0, c.target, 0, 0))
			best, off, one := impl.BestChoice(box, c.target)
			factor, two = impl.FactorOfChoice(box, best)
			expect(t, "the first one of equal choices", show(off, factor, one, two), show(0, c.target, 0, 0))
			turned, two := impl.FactorOfChoice(box, impl.Choice{A: best.C, B: best.D, C: best.A, D: best.B})
			expect(t, "a choice with its pairs exchanged", show(turned, two, best.A < best.C), show(factor, 0, true))
		}
	}
}

// Promise 10 of invalid arguments: what is best has the error of what is near.
func TestPromise10OfErrors(t *testing.T) {
	for _, box := range append(badBoxes(), exampleBox()) {
		for _, x := range append([]float32{0.5}, notTargets...) {
			a, b, off, one := impl.BestPair(box, x)
			best, far, two := impl.BestChoice(box, x)
			pairs, three := impl.PairsWithin(box, x, 0.5)
			count, four := impl.CountChoices(box, x, 0.5)
			want := impl.OK
			switch {
			case !impl.ValidBox(box):
				want = impl.ErrInvalid
			case x != 0.5:
				want = impl.ErrRange
			}
			expect(t, "errors", show(one, two, three, four), show(want, want, want, want))
			if want != impl.OK {
				expect(t, "nothing beside an error", show(a, b, off, best, far, len(pairs), count), show(0, 0, 0, impl.Choice{}, 0, 0, 0))
			}
		}
	}
}

// Promise 11: all factors are those of pairs, each once and in ascending order.
func TestPromise11OfFactors(t *testing.T) {
	for _, box := range someBoxes(1000, 24) {
		list, code := impl.AllFactors(box)
		if code != 0 || len(list) < 2 {
			t.Fatalf("%v has the factors %v (%v)", box, list, code)
		}
		missing := map[float32]bool{}
		for i, factor := range list {
			missing[factor] = true
			if i > 0 && !(factor > list[i-1]) {
				t.Errorf("the factors of %v are not ascending: %v", box, list)
			}
		}
		for _, pair := range wantPairs(box) {
			factor, _ := impl.FactorOfPair(box, pair[0], pair[1])
			if !slices.Contains(list, factor) {
				t.Errorf("the factor of %v, %v, is none of %v", pair, factor, list)
			}
			delete(missing, factor)
		}
		expect(t, "factors of no pair of "+show(box), show(len(missing)), show(0))
		expectSplit(t, box, list)
	}
}

// expectSplit expects that the factors between limits make all factors, and
// that no step between two is wider than the widest one.
func expectSplit(t *testing.T, box []int16, list []float32) {
	t.Helper()
	middle := list[len(list)/2]
	low, one := impl.FactorsBetween(box, -plainest, below(middle))
	high, two := impl.FactorsBetween(box, middle, plainest)
	expect(t, "factors in two parts", show(slices.Concat(low, high), one, two), show(list, 0, 0))
	lesser, widest, code := impl.WidestStep(box)
	at := slices.Index(list, lesser)
	if code != 0 || at < 0 || at == len(list)-1 {
		t.Fatalf("the widest step of %v is at %v (%v)", list, lesser, code)
	}
	for i, greater := range list[1:] {
		step := quotient(greater, list[i])
		if step > widest || step == widest && i < at || i == at && step != widest {
			t.Errorf("the step at %v of %v is %v, the widest one at %v is %v", i, list, step, at, widest)
		}
	}
}

// Promise 11: a wheel that is added makes the best pair no worse, and none
// makes it better than the one that is told.
func TestPromise11OfAddedWheels(t *testing.T) {
	better := 0
	for _, c := range someBoxCases(400, 23) {
		_, _, before, _ := impl.BestPair(c.box, c.target)
		best, least, code := impl.AddWheel(c.box, c.target)
		if code != 0 || !slices.Contains(wantAdded(c.box), int16(best)) || !(least <= before) {
			t.Errorf("%v: %v is added, off by %v, and by %v before (%v)", c, best, least, before, code)
		}
		for _, teeth := range wantAdded(c.box) {
			_, _, off, one := impl.BestPair(withWheel(c.box, teeth), c.target)
			if one != 0 || !(off <= before) || off < least || off == least && int64(teeth) < best || int64(teeth) == best && off != least {
				t.Errorf("%v: with %v it is off by %v, with %v by %v, and by %v before", c, teeth, off, best, least, before)
			}
		}
		if least < before {
			better++
		}
	}
	if better < 100 {
		t.Errorf("only %v wheels that are added make anything better", better)
	}
}

// Promise 11 of choices: a wheel that is added makes the best one no worse.
func TestPromise11OfChoices(t *testing.T) {
	p := picker(105)
	for _, c := range someBoxCases(300, 10) {
		more := withWheel(c.box, oneOf(&p, wantAdded(c.box)))
		_, before, one := impl.BestChoice(c.box, c.target)
		_, behind, two := impl.BestChoice(more, c.target)
		if one == 0 && (two != 0 || !(behind <= before)) {
			t.Errorf("%v with more wheels, %v, is off by %v instead of %v", c, more, behind, before)
		}
		list, _ := impl.AllFactors(c.box)
		all, _ := impl.AllFactors(more)
		for _, factor := range list {
			if !slices.Contains(all, factor) {
				t.Errorf("%v is a factor of %v, but none of %v", factor, c.box, more)
			}
		}
	}
}

// Promise 11 of invalid arguments: what has no wheels has no factors.
func TestPromise11OfErrors(t *testing.T) {
	for _, box := range badBoxes() {
		list, one := impl.AllFactors(box)
		between, two := impl.FactorsBetween(box, 0, 1)
		lesser, step, three := impl.WidestStep(box)
		teeth, off, four := impl.AddWheel(box, 1)
		expect(t, "no box", show(len(list), one, len(between), two, lesser, step, three, teeth, off, four), show(0, 1, 0, 1, 0, 0, 1, 0, 0, 1))
	}
	teeth, off, code := impl.AddWheel(evenBox(6, 1, 24), 1)
	expect(t, "a full box", show(teeth, off, code), show(0, 0, impl.ErrLimit))
}

// Promise 12: a convergent is no further from a number than the one before.
func TestPromise12(t *testing.T) {
	long := 0
	for _, a := range someNumbers(10000) {
		list, code := impl.ConvergentsOf(a, 1000000)
		if code != 0 || len(list) == 0 || len(list) > 40 || list[0] != fractionOf(int64(a), 1) {
			t.Fatalf("%v has the convergents %v (%v)", a, list, code)
		}
		for i := 1; i < len(list); i++ {
			expectConvergent(t, exact(a), list[i-1], list[i], i)
		}
		exactly, _ := impl.ExactOf(a)
		last := list[len(list)-1]
		if exactly.Den <= 1000000 && last != exactly || last.Den > 1000000 {
			t.Errorf("the last convergent of %v is %v", exactly, last)
		}
		long = max(long, len(list))
	}
	if long < 15 {
		t.Errorf("no number has more than %v convergents", long)
	}
}

// expectConvergent expects of two convergents, the second one with an index,
// that the second one is no further from a number, and on its other side.
func expectConvergent(t *testing.T, number *big.Rat, before, next impl.Fraction, index int) {
	t.Helper()
	one, two := ratOf(before), ratOf(next)
	if one == nil || two == nil || distance(number, two).Cmp(distance(number, one)) > 0 {
		t.Fatalf("%v is further from %v than %v", next, number, before)
	}
	side := two.Cmp(number)
	if side != 0 && side > 0 != (index%2 == 1) {
		t.Errorf("the convergent %v of %v, %v, is on the wrong side", index, number, next)
	}
	cross := next.Num*before.Den - before.Num*next.Den
	if cross != 1 && cross != -1 || next.Den < before.Den {
		t.Errorf("%v does not follow %v", next, before)
	}
}

// Promise 12 with fewer convergents: those whose denominators are at most told.
func TestPromise12WithLimits(t *testing.T) {
	for _, a := range someNumbers(1000) {
		whole, _ := impl.ConvergentsOf(a, 1000000)
		for _, c := range whole {
			for _, most := range []int64{c.Den - 1, c.Den, c.Den + 1} {
				if most < 1 || most > 1000000 {
					continue
				}
				list, code := impl.ConvergentsOf(a, most)
				count := 0
				for count < len(whole) && whole[count].Den <= most {
					count++
				}
				expect(t, "convergents up to "+show(most), show(list, code), show(whole[:count], 0))
			}
		}
	}
}

// Promise 12 and nearest fractions: no fraction with a denominator up to that
// of a convergent is nearer, behind the first convergent.
func TestPromise12OfNearestFractions(t *testing.T) {
	met := 0
	for _, a := range someNumbers(2000) {
		list, _ := impl.ConvergentsOf(a, 1000)
		exactly := exact(a)
		for i, c := range list {
			near, code := impl.NearestFraction(a, c.Den)
			if code != 0 || near.Num < 0 || near.Den < 1 || near.Den > c.Den || fractionFrom(ratOf(near)) != near {
				t.Fatalf("the nearest fraction of %v up to %v is %v (%v)", a, c.Den, near, code)
			}
			off, best := distance(exactly, ratOf(c)), distance(exactly, ratOf(near))
			last := i == len(list)-1 || list[i+1].Den > c.Den
			if best.Cmp(off) > 0 || i > 0 && last && best.Cmp(off) != 0 {
				t.Errorf("%v is nearest to %v up to %v, instead of %v", near, a, c.Den, c)
			}
			met++
		}
	}
	if met < 5000 {
		t.Errorf("only %v convergents are compared", met)
	}
}

// Promise 12 of invalid arguments: what is no fraction has no convergents.
func TestPromise12OfErrors(t *testing.T) {
	for _, a := range append([]float32{0.375}, notTargets...) {
		for _, most := range []int64{8, 1, 1000000, 0, -1, 1000001, math.MinInt64, math.MaxInt64} {
			list, code := impl.ConvergentsOf(a, most)
			if a == 0.375 && most >= 1 && most <= 1000000 {
				expect(t, "code", show(code, len(list) > 0), show(0, true))
			} else {
				expect(t, "no convergents", show(len(list), code), show(0, impl.ErrRange))
			}
		}
	}
}
