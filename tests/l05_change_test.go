package tests

import (
	"math"
	"math/big"
	"slices"
	"strings"
	"testing"

	"loop.example/g01344/impl"
)

func TestLimitsOfBoxes(t *testing.T) {
	expect(t, "limits", show(impl.MaxBox, impl.MaxSteps, impl.MaxDen), show(24, 40, 1000000))
}

func TestValidBox(t *testing.T) {
	for _, box := range someBoxes(1000, 24) {
		if !impl.ValidBox(box) {
			t.Errorf("%v is not valid", box)
		}
	}
	for _, box := range badBoxes() {
		if impl.ValidBox(box) {
			t.Errorf("%v is valid", box)
		}
	}
}

func TestExampleOfChangeWheels(t *testing.T) {
	box := exampleBox()
	a, b, off, one := impl.BestPair(box, 0.5)
	c, far, two := impl.BestChoice(box, 0.25)
	expect(t, "the best ones", show(a, b, off, one, c, far, two), show(0, 2, 0, 0, choiceOf(0, 2, 1, 3), 0, 0))
	pairs, one := impl.PairsWithin(box, 0.5, 0)
	all, two := impl.AllFactors(box)
	expect(t, "factors", show(pairs, one, all, two), show([][2]int64{{0, 2}, {1, 3}}, 0, []float32{0.33333334, 0.5, 0.6666667, 0.75, 1.3333334, 1.5, 2, 3}, 0))
	f, one := impl.ExactOf(0.375)
	list, two := impl.ConvergentsOf(0.375, 8)
	near, three := impl.NearestFraction(0.375, 3)
	expect(t, "fractions", show(f, one, list, two, near, three), show("{3 8}", 0, "[{0 1} {1 2} {1 3} {3 8}]", 0, "{1 3}", 0))
}

// offCase is a factor with a target.
type offCase struct{ factor, target float32 }

func someOffCases(count int) []offCase {
	p := picker(94)
	list := []offCase{{0.75, 0.5}, {0.25, 0.5}}
	for len(list) < count {
		target := p.between(leastTarget, greatestTarget)
		factor := oneOf(&p, []float32{p.plain(), p.between(leastTarget, 33), target, above(target), below(target), product(target, p.between(0.5, 2))})
		list = append(list, offCase{factor, target})
	}
	return list
}

func TestOffBy(t *testing.T) {
	list := someOffCases(20000)
	for _, c := range list {
		off, code := impl.OffBy(c.factor, c.target)
		expect(t, "OffBy "+show(c), show(off, code), show(wantOff(c.factor, c.target), 0))
	}
	off := func(c offCase) float32 { return wantOff(c.factor, c.target) }
	tellsApart(t, "the quotient less 1", list, off, func(c offCase) float32 {
		return float32(math.Abs(float64(difference(quotient(c.factor, c.target), 1))))
	})
	tellsApart(t, "a difference that is not rounded", list, off, func(c offCase) float32 {
		return rounds(math.Abs(float64(c.factor)-float64(c.target)) / float64(c.target))
	})
	tellsApart(t, "divided by the factor", list, off, func(c offCase) float32 {
		return float32(math.Abs(float64(quotient(difference(c.factor, c.target), c.factor))))
	})
}

func TestOffByAtLimits(t *testing.T) {
	cases := []struct{ factor, target, off float32 }{
		{0.75, 0.5, 0.5}, {0.25, 0.5, 0.5}, {0.5, 0.5, 0}, {1, 1, 0}, {0, 1, 1}, {negZero, 1, 1}, {tiny, 1, 1}, {-tiny, 1, 1}, {-1, 1, 2}, {-0.5, 0.5, 2},
		{leastTarget, leastTarget, 0}, {greatestTarget, greatestTarget, 0}, {greatestTarget, leastTarget, plainest - 1}, {leastTarget, greatestTarget, 1 - 1.0/(1<<20)},
		{plainest, leastTarget, 1 << 30}, {plainest, greatestTarget, 1023}, {-plainest, greatestTarget, 1025}, {-plainest, leastTarget, 1 << 30}, {above(1), 1, 1.0 / (1 << 23)}, {below(1), 1, 1.0 / (1 << 24)},
	}
	for _, c := range cases {
		off, code := impl.OffBy(c.factor, c.target)
		expect(t, "OffBy "+show(c), show(off, code), show(c.off, 0))
		expect(t, "wanted "+show(c), show(wantOff(c.factor, c.target)), show(c.off))
	}
}

func TestFactorOfPair(t *testing.T) {
	for _, box := range someBoxes(300, 24) {
		for _, pair := range wantPairs(box) {
			factor, code := impl.FactorOfPair(box, pair[0], pair[1])
			expect(t, "FactorOfPair "+show(box, pair), show(factor, code), show(wantFactor(box, pair), 0))
		}
	}
	box := exampleBox()
	third, one := impl.FactorOfPair(box, 0, 3)
	three, two := impl.FactorOfPair(box, 3, 0)
	expect(t, "FactorOfPair", show(third, one, three, two), show(0.33333334, 0, 3, 0))
}

// someChoices are choices of one box, with it.
type boxChoice struct {
	box    []int16
	choice impl.Choice
}

func someChoices(count int) []boxChoice {
	p := picker(95)
	var list []boxChoice
	for _, box := range someBoxes(200, 24) {
		if len(box) < 4 {
			continue
		}
		all := wantChoices(box)
		for range count / 200 {
			list = append(list, boxChoice{box, oneOf(&p, all)})
		}
	}
	return list
}

func TestFactorOfChoice(t *testing.T) {
	list := someChoices(20000)
	for _, c := range list {
		factor, code := impl.FactorOfChoice(c.box, c.choice)
		expect(t, "FactorOfChoice "+show(c), show(factor, code), show(wantFactorOf(c.box, c.choice), 0))
	}
	factor := func(c boxChoice) float32 { return wantFactorOf(c.box, c.choice) }
	teeth := func(c boxChoice) (a, b, c4, d float32) {
		return float32(c.box[c.choice.A]), float32(c.box[c.choice.B]), float32(c.box[c.choice.C]), float32(c.box[c.choice.D])
	}
	tellsApart(t, "one quotient of both products", list, factor, func(c boxChoice) float32 {
		a, b, c4, d := teeth(c)
		return quotient(product(a, c4), product(b, d))
	})
	tellsApart(t, "quotients one behind the other", list, factor, func(c boxChoice) float32 {
		a, b, c4, d := teeth(c)
		return quotient(product(quotient(a, b), c4), d)
	})
	tellsApart(t, "quotients across", list, factor, func(c boxChoice) float32 {
		a, b, c4, d := teeth(c)
		return product(quotient(a, d), quotient(c4, b))
	})
	// These are for the same wheels in other places.
	for _, other := range []func(impl.Choice) impl.Choice{
		func(c impl.Choice) impl.Choice { return impl.Choice{A: c.B, B: c.A, C: c.C, D: c.D} },
		func(c impl.Choice) impl.Choice { return impl.Choice{A: c.A, B: c.B, C: c.D, D: c.C} },
		func(c impl.Choice) impl.Choice { return impl.Choice{A: c.A, B: c.C, C: c.B, D: c.D} },
	} {
		tellsApart(t, "other places", list, factor, func(c boxChoice) float32 { return wantFactorOf(c.box, other(c.choice)) })
	}
}

func TestTrainFor(t *testing.T) {
	for _, c := range someChoices(10000) {
		train, code := impl.TrainFor(c.box, c.choice)
		want := impl.Train{pairOf(c.box[c.choice.A], c.box[c.choice.B], 0), pairOf(c.box[c.choice.C], c.box[c.choice.D], 0)}
		expect(t, "TrainFor "+show(c), show(train, code), show(want, 0))
		factor, one := impl.FactorOfChoice(c.box, c.choice)
		same, two := impl.FactorOf(train)
		whole, three := impl.EfficiencyOf(train)
		expect(t, "the factor of "+show(train), show(same, one, two, whole, three), show(factor, 0, 0, 1, 0))
	}
}

func TestBestPair(t *testing.T) {
	cases := someBoxCases(5000, 24)
	ties := 0
	for _, c := range cases {
		a, b, off, code := impl.BestPair(c.box, c.target)
		want, wantBy := wantBestPair(c.box, c.target)
		expect(t, "BestPair "+show(c), show(a, b, off, code), show(want[0], want[1], wantBy, 0))
		pairs, _ := impl.PairsWithin(c.box, c.target, min(wantBy, 1))
		if len(pairs) > 1 {
			ties++
		}
	}
	if ties < 500 {
		t.Errorf("only %v targets have several best pairs", ties)
	}
}

func TestBestPairAtLimits(t *testing.T) {
	twos := []int16{10, 20, 40, 80}
	cases := []struct {
		box    []int16
		target float32
		a, b   int
		off    float32
	}{
		{exampleBox(), 0.5, 0, 2, 0}, {exampleBox(), 2, 2, 0, 0}, {exampleBox(), 1.5, 1, 0, 0}, {exampleBox(), 0.6666667, 0, 1, 0}, {exampleBox(), 3, 3, 0, 0},
		// Both 1.5 and 2 are off as much, and 1.5 comes first; then 2 and 4, 0.5 and 0.25, and 0.25 and 0.125.
		{exampleBox(), 1.75, 1, 0, 0.14285715}, {[]int16{20, 30, 40}, 1.75, 1, 0, 0.14285715}, {twos, 3, 1, 0, 0.33333334}, {twos, 0.375, 0, 1, 0.33333334}, {twos, 0.1875, 0, 2, 0.33333334},
		// Here 3 comes before 2, there 2 before 3, and 6 before 9.
		{[]int16{16, 24, 48}, 2.5, 2, 0, 0.2}, {[]int16{8, 16, 24}, 2.5, 1, 0, 0.2}, {[]int16{6, 24, 36, 54}, 7.5, 2, 0, 0.2},
		{[]int16{6, 7}, leastTarget, 0, 1, 876.7143}, {[]int16{6, 7}, greatestTarget, 1, 0, 0.99886066}, {[]int16{6, 200}, leastTarget, 0, 1, 29.72}, {[]int16{6, 200}, greatestTarget, 1, 0, 0.96744794},
		{[]int16{199, 200}, 1, 0, 1, 0.0049999952}, {[]int16{8, 16, 128}, 0.0625, 0, 2, 0}, {[]int16{8, 16, 128}, 16, 2, 0, 0}, {twos, 0.5, 0, 1, 0}, {twos, 2, 1, 0, 0}, {twos, 4, 2, 0, 0}, {twos, 8, 3, 0, 0},
	}
	for _, c := range cases {
		a, b, off, code := impl.BestPair(c.box, c.target)
		expect(t, "BestPair "+show(c), show(a, b, off, code), show(c.a, c.b, c.off, 0))
	}
}

func TestBestChoice(t *testing.T) {
	var cases []boxCase
	for _, c := range someBoxCases(200, 24) {
		if len(c.box) < 4 {
			continue
		}
		cases = append(cases, c)
		best, off, code := impl.BestChoice(c.box, c.target)
		want, wantBy := wantBest(c.box, c.target)
		expect(t, "BestChoice "+show(c), show(best, off, code), show(wantChoices(c.box)[want], wantBy, 0))
	}
	narrow := func(c boxCase) float32 {
		best, _ := wantBest(c.box, c.target)
		return float32(best)
	}
	tellsApart(t, "choices without roundings", cases, narrow, func(c boxCase) float32 {
		best, _ := firstLeast(wantChoices(c.box), func(d impl.Choice) float64 {
			wide := float64(int64(c.box[d.A])*int64(c.box[d.C])) / float64(int64(c.box[d.B])*int64(c.box[d.D]))
			return math.Abs(wide - float64(c.target))
		})
		return float32(best)
	})
}

func TestBestChoiceOfFewWheels(t *testing.T) {
	for _, c := range someBoxCases(3000, 7) {
		best, off, code := impl.BestChoice(c.box, c.target)
		if len(c.box) < 4 {
			expect(t, "BestChoice "+show(c), show(best, off, code), show(impl.Choice{}, 0, impl.ErrNotFound))
			continue
		}
		want, wantBy := wantBest(c.box, c.target)
		expect(t, "BestChoice "+show(c), show(best, off, code), show(wantChoices(c.box)[want], wantBy, 0))
	}
}

func TestBestChoiceAtLimits(t *testing.T) {
	twos, wide := []int16{10, 20, 40, 80}, []int16{6, 7, 199, 200}
	cases := []struct {
		box    []int16
		target float32
		best   impl.Choice
		off    float32
	}{
		{exampleBox(), 0.25, choiceOf(0, 2, 1, 3), 0}, {exampleBox(), 4, choiceOf(2, 0, 3, 1), 0}, {exampleBox(), 1, choiceOf(0, 1, 3, 2), 0}, {exampleBox(), 2.25, choiceOf(1, 0, 3, 2), 0},
		{twos, 0.25, choiceOf(0, 1, 2, 3), 0}, {twos, 0.0625, choiceOf(0, 2, 1, 3), 0}, {twos, 1, choiceOf(0, 1, 3, 2), 0}, {twos, 16, choiceOf(2, 0, 3, 1), 0},
		// Both 4 and 16, or 1 and 4, are off as much.
		{twos, 10, choiceOf(1, 0, 3, 2), 0.6}, {twos, 2.5, choiceOf(0, 1, 3, 2), 0.6}, {twos, 0.625, choiceOf(0, 1, 2, 3), 0.6},
		{wide, greatestTarget, choiceOf(2, 0, 3, 1), 0.07459074}, {wide, leastTarget, choiceOf(0, 2, 1, 3), 0.080603},
	}
	for _, c := range cases {
		best, off, code := impl.BestChoice(c.box, c.target)
		expect(t, "BestChoice "+show(c), show(best, off, code), show(c.best, c.off, 0))
	}
}

func TestPairsWithin(t *testing.T) {
	p := picker(96)
	for _, c := range someBoxCases(2000, 24) {
		reached := wantOff(wantFactor(c.box, oneOf(&p, wantPairs(c.box))), c.target)
		for _, within := range []float32{0, negZero, 1, p.loss(), min(reached, 1), max(below(reached), 0), min(above(reached), 1)} {
			if !isPart(within) {
				continue
			}
			list, code := impl.PairsWithin(c.box, c.target, within)
			want := slices.DeleteFunc(wantPairs(c.box), func(pair [2]int64) bool { return wantOff(wantFactor(c.box, pair), c.target) > within })
			expect(t, "PairsWithin "+show(c, within), show(list, code), show(want, 0))
		}
	}
}

func TestPairsWithinAtLimits(t *testing.T) {
	box := exampleBox()
	cases := []struct {
		target, within float32
		list           [][2]int64
	}{
		{0.5, 0, [][2]int64{{0, 2}, {1, 3}}}, {0.5, negZero, [][2]int64{{0, 2}, {1, 3}}}, {2, 0.25, [][2]int64{{1, 0}, {2, 0}, {3, 1}, {3, 2}}}, {2, below(0.25), [][2]int64{{2, 0}, {3, 1}}},
		{0.5, 0.5, [][2]int64{{0, 1}, {0, 2}, {0, 3}, {1, 2}, {1, 3}, {2, 3}}}, {0.51, 0, nil}, {greatestTarget, 0.5, nil}, {leastTarget, 1, nil},
		{greatestTarget, 1, wantPairs(box)}, {3, 1, wantPairs(box)}, {1.5, 1, wantPairs(box)}, {below(1.5), 1, slices.DeleteFunc(wantPairs(box), func(pair [2]int64) bool { return pair == [2]int64{3, 0} })},
	}
	for _, c := range cases {
		list, code := impl.PairsWithin(box, c.target, c.within)
		expect(t, "PairsWithin "+show(c), show(list, code), show(c.list, 0))
	}
}

func TestCountChoices(t *testing.T) {
	p := picker(97)
	for _, c := range someBoxCases(150, 24) {
		choices := wantChoices(c.box)
		reached := p.loss()
		if len(choices) > 0 {
			reached = wantOff(wantFactorOf(c.box, oneOf(&p, choices)), c.target)
		}
		for _, within := range []float32{0, min(reached, 1), max(below(reached), 0)} {
			if isPart(within) {
				expectCount(t, c, choices, within)
			}
		}
	}
}

func expectCount(t *testing.T, c boxCase, choices []impl.Choice, within float32) {
	t.Helper()
	count, code := impl.CountChoices(c.box, c.target, within)
	want := 0
	for _, d := range choices {
		if wantOff(wantFactorOf(c.box, d), c.target) <= within {
			want++
		}
	}
	expect(t, "CountChoices "+show(c, within), show(count, code), show(want, 0))
}

func TestCountChoicesOfFewWheels(t *testing.T) {
	p := picker(98)
	for _, c := range someBoxCases(1000, 7) {
		for _, within := range []float32{0, negZero, 0.25, 1, p.loss()} {
			expectCount(t, c, wantChoices(c.box), within)
		}
	}
}

func TestCountChoicesAtLimits(t *testing.T) {
	box := exampleBox()
	cases := []struct {
		box            []int16
		target, within float32
		count          int
	}{
		{box, 0.25, 0, 4}, {box, 0.25, negZero, 4}, {box, 1, 0, 8}, {box, 4, 0, 4}, {box, 2.25, 0, 4}, {box, 3, 0, 0}, {box, leastTarget, 1, 0}, {box, greatestTarget, 1, 24}, {box, greatestTarget, below(0.99), 0},
		// The choice is off by exactly 0.5, or by a last bit more.
		{box, 0.5, 0.5, 8}, {box, 0.5, below(0.5), 4}, {box, 8, 0.5, 4}, {box, 8, below(0.5), 0}, {box, 2, 1, 24}, {box, below(2), 1, 20},
		{[]int16{20, 30}, 1, 1, 0}, {[]int16{20, 30, 40}, 1, 1, 0}, {[]int16{20, 30, 40, 60}, 1024, 1, 24}, {evenBox(6, 1, 5), 1024, 1, 120}, {evenBox(6, 1, 24), 1024, 1, 255024}, {evenBox(177, 1, 24), 1, 1, 255024},
	}
	for _, c := range cases {
		count, code := impl.CountChoices(c.box, c.target, c.within)
		expect(t, "CountChoices "+show(c), show(count, code), show(c.count, 0))
	}
}

func TestAllFactors(t *testing.T) {
	fewer := 0
	for _, box := range someBoxes(1000, 24) {
		list, code := impl.AllFactors(box)
		want := wantFactors(box)
		expect(t, "AllFactors "+show(box), show(list, code), show(want, 0))
		if len(want) < len(wantPairs(box)) {
			fewer++
		}
	}
	if fewer < 300 {
		t.Errorf("only %v boxes have equal quotients", fewer)
	}
	cases := []struct {
		box  []int16
		list []float32
	}{
		{[]int16{20, 30}, []float32{0.6666667, 1.5}}, {[]int16{6, 200}, []float32{0.03, 33.333332}}, {[]int16{199, 200}, []float32{0.995, 1.0050251}},
		{[]int16{8, 16, 128}, []float32{0.0625, 0.125, 0.5, 2, 8, 16}}, {[]int16{6, 12, 24}, []float32{0.25, 0.5, 2, 4}}, {[]int16{10, 20, 40, 80}, []float32{0.125, 0.25, 0.5, 2, 4, 8}},
	}
	for _, c := range cases {
		list, code := impl.AllFactors(c.box)
		expect(t, "AllFactors "+show(c), show(list, code), show(c.list, 0))
	}
}

func TestFactorsBetween(t *testing.T) {
	p := picker(99)
	for _, box := range someBoxes(1000, 24) {
		factors := wantFactors(box)
		limits := []float32{0, negZero, 1, -1, plainest, -plainest, tiny, p.between(leastTarget, 33), p.plain()}
		for range 8 {
			at := oneOf(&p, factors)
			limits = append(limits, at, above(at), below(at))
		}
		for range 20 {
			low, high := oneOf(&p, limits), oneOf(&p, limits)
			if low > high {
				low, high = high, low
			}
			list, code := impl.FactorsBetween(box, low, high)
			want := slices.DeleteFunc(slices.Clone(factors), func(factor float32) bool { return !(low <= factor && factor <= high) })
			expect(t, "FactorsBetween "+show(box, low, high), show(list, code), show(want, 0))
		}
	}
}

func TestFactorsBetweenAtLimits(t *testing.T) {
	cases := []struct {
		low, high float32
		list      []float32
	}{
		{0.5, 1, []float32{0.5, 0.6666667, 0.75}}, {0.5, 0.75, []float32{0.5, 0.6666667, 0.75}}, {above(0.5), below(0.75), []float32{0.6666667}}, {2, 2, []float32{2}}, {above(2), above(2), nil},
		{0, 0, nil}, {negZero, 0, nil}, {0, negZero, nil}, {-plainest, 0, nil}, {-1, -1, nil}, {-plainest, -plainest, nil}, {plainest, plainest, nil}, {above(3), plainest, nil}, {3, plainest, []float32{3}},
		{-plainest, plainest, wantFactors(exampleBox())}, {0, 3, wantFactors(exampleBox())}, {negZero, 0.33333334, []float32{0.33333334}}, {0, below(0.33333334), nil}, {1, 1.3333334, []float32{1.3333334}},
	}
	for _, c := range cases {
		list, code := impl.FactorsBetween(exampleBox(), c.low, c.high)
		expect(t, "FactorsBetween "+show(c), show(list, code), show(c.list, 0))
	}
}

func TestWidestStep(t *testing.T) {
	boxes := someBoxes(2000, 24)
	for _, box := range boxes {
		lesser, step, code := impl.WidestStep(box)
		want, wantBy := wantStep(wantFactors(box), quotient)
		expect(t, "WidestStep "+show(box), show(lesser, step, code), show(want, wantBy, 0))
	}
	lesser := func(box []int16) float32 {
		want, _ := wantStep(wantFactors(box), quotient)
		return want
	}
	tellsApart(t, "the widest difference", boxes, lesser, func(box []int16) float32 {
		want, _ := wantStep(wantFactors(box), difference)
		return want
	})
	tellsApart(t, "the least quotient of the lesser one and the greater one", boxes, lesser, func(box []int16) float32 {
		want, _ := wantStep(wantFactors(box), func(greater, lesser float32) float32 { return -quotient(lesser, greater) })
		return want
	})
	tellsApart(t, "the last one of several", boxes, lesser, func(box []int16) float32 {
		factors := wantFactors(box)
		_, widest := wantStep(factors, quotient)
		last := float32(0)
		for i, factor := range factors[1:] {
			if quotient(factor, factors[i]) == widest {
				last = factors[i]
			}
		}
		return last
	})
}

func TestWidestStepAtLimits(t *testing.T) {
	cases := []struct {
		box          []int16
		lesser, step float32
	}{
		{[]int16{20, 30}, 0.6666667, 2.25}, {[]int16{6, 7}, 0.85714287, 1.361111}, {[]int16{6, 200}, 0.03, 1111.1111}, {[]int16{199, 200}, 0.995, 1.0100756}, {exampleBox(), 0.75, 1.7777778},
		// The steps are 2, 4, 4, 4 and 2; and 2, 4 and 2.
		{[]int16{8, 16, 128}, 0.125, 4}, {[]int16{6, 12, 24}, 0.5, 4}, {[]int16{10, 20, 40, 80}, 0.5, 4}, {[]int16{6, 12, 192}, 0.0625, 8},
	}
	for _, c := range cases {
		lesser, step, code := impl.WidestStep(c.box)
		expect(t, "WidestStep "+show(c), show(lesser, step, code), show(c.lesser, c.step, 0))
	}
}

func TestAddWheel(t *testing.T) {
	for _, c := range someBoxCases(400, 23) {
		teeth, off, code := impl.AddWheel(c.box, c.target)
		want, wantBy := wantAddWheel(c.box, c.target)
		expect(t, "AddWheel "+show(c), show(teeth, off, code), show(want, wantBy, 0))
	}
}

func TestAddWheelAtLimits(t *testing.T) {
	cases := []struct {
		box    []int16
		target float32
		teeth  int
		off    float32
	}{
		// Where it can be no better the least number is added that is not there.
		{[]int16{20, 30}, 0.5, 10, 0}, {exampleBox(), 0.5, 6, 0}, {[]int16{6, 12}, 0.5, 7, 0}, {[]int16{6, 7, 12}, 0.5, 8, 0}, {evenBox(6, 1, 23), 0.5, 29, 0}, {evenBox(6, 1, 22), 2, 28, 0},
		{[]int16{20, 30}, 1.5, 6, 0}, {[]int16{6, 200}, leastTarget, 7, 29.72}, {[]int16{6, 200}, greatestTarget, 7, 0.96744794}, {[]int16{199, 200}, leastTarget, 6, 29.72}, {[]int16{7, 8}, greatestTarget, 200, 0.97209823},
		{[]int16{7, 200}, greatestTarget, 6, 0.96744794}, {[]int16{6, 7}, leastTarget, 200, 29.72}, {[]int16{20, 30}, 1, 31, 0.032258093}, {[]int16{100, 180}, 0.8888889, 160, 0}, {evenBox(178, 1, 23), 1, 6, 0.0049999952},
	}
	for _, c := range cases {
		teeth, off, code := impl.AddWheel(c.box, c.target)
		want, wantBy := wantAddWheel(c.box, c.target)
		expect(t, "AddWheel "+show(c), show(teeth, off, code), show(c.teeth, c.off, 0))
		expect(t, "wanted "+show(c), show(want, wantBy), show(c.teeth, c.off))
	}
}

func TestExactOf(t *testing.T) {
	for _, a := range someNumbers(20000) {
		f, code := impl.ExactOf(a)
		expect(t, "ExactOf "+show(a), show(f, code), show(fractionFrom(exact(a)), 0))
	}
	cases := []struct {
		a float32
		f impl.Fraction
	}{
		{0.375, fractionOf(3, 8)}, {1, fractionOf(1, 1)}, {3, fractionOf(3, 1)}, {6, fractionOf(6, 1)}, {1.5, fractionOf(3, 2)}, {0.5, fractionOf(1, 2)}, {33.25, fractionOf(133, 4)},
		{leastTarget, fractionOf(1, 1024)}, {above(leastTarget), fractionOf(1<<23+1, 1<<33)}, {greatestTarget, fractionOf(1024, 1)}, {below(greatestTarget), fractionOf(1<<24-1, 1<<14)},
		{above(1), fractionOf(1<<23+1, 1<<23)}, {below(1), fractionOf(1<<24-1, 1<<24)}, {0.1, fractionOf(13421773, 1<<27)}, {1023, fractionOf(1023, 1)}, {1023.5, fractionOf(2047, 2)},
	}
	for _, c := range cases {
		f, code := impl.ExactOf(c.a)
		expect(t, "ExactOf "+show(c.a), show(f, code), show(c.f, 0))
	}
}

func TestConvergentsOf(t *testing.T) {
	p := picker(100)
	for _, a := range someNumbers(4000) {
		for _, most := range []int64{1000000, int64(1 + p.below(1000000)), int64(1 + p.below(1000)), 1} {
			list, code := impl.ConvergentsOf(a, most)
			expect(t, "ConvergentsOf "+show(a, most), show(list, code), show(wantConvergents(a, most), 0))
		}
	}
}

func TestConvergentsOfAtLimits(t *testing.T) {
	// The fourth convergent of this number has the greatest denominator.
	long := math.Float32frombits(0x3a84406c)
	cases := []struct {
		a    float32
		most int64
		list string
	}{
		{0.375, 8, "[{0 1} {1 2} {1 3} {3 8}]"}, {0.375, 7, "[{0 1} {1 2} {1 3}]"}, {0.375, 3, "[{0 1} {1 2} {1 3}]"}, {0.375, 2, "[{0 1} {1 2}]"}, {0.375, 1, "[{0 1}]"}, {0.375, 1000000, "[{0 1} {1 2} {1 3} {3 8}]"},
		// Two convergents with the denominator 1.
		{0.75, 1, "[{0 1} {1 1}]"}, {0.75, 3, "[{0 1} {1 1}]"}, {0.75, 4, "[{0 1} {1 1} {3 4}]"}, {1.75, 1, "[{1 1} {2 1}]"}, {below(1), 1, "[{0 1} {1 1}]"}, {below(1), 1000000, "[{0 1} {1 1}]"},
		{1, 1, "[{1 1}]"}, {1, 1000000, "[{1 1}]"}, {1024, 1, "[{1024 1}]"}, {33, 1000, "[{33 1}]"}, {0.5, 1, "[{0 1}]"}, {0.5, 2, "[{0 1} {1 2}]"}, {1.5, 2, "[{1 1} {3 2}]"}, {2.25, 4, "[{2 1} {9 4}]"},
		{leastTarget, 1023, "[{0 1}]"}, {leastTarget, 1024, "[{0 1} {1 1024}]"}, {leastTarget, 1000000, "[{0 1} {1 1024}]"}, {below(greatestTarget), 16383, "[{1023 1} {1024 1}]"}, {below(greatestTarget), 16384, "[{1023 1} {1024 1} {16777215 16384}]"},
		{math.Pi, 113, "[{3 1} {22 7} {333 106} {355 113}]"}, {math.Pi, 112, "[{3 1} {22 7} {333 106}]"}, {0.6666667, 3, "[{0 1} {1 1} {2 3}]"}, {above(1), 1000000, "[{1 1}]"},
		{long, 999999, show(wantConvergents(long, 999999))}, {long, 1000000, show(wantConvergents(long, 1000000))},
	}
	for _, c := range cases {
		list, code := impl.ConvergentsOf(c.a, c.most)
		expect(t, "ConvergentsOf "+show(c.a, c.most), strings.TrimSpace(show(list)), strings.TrimSpace(c.list))
		expect(t, "code", show(code), show(0))
	}
	whole, _ := impl.ConvergentsOf(long, 1000000)
	less, _ := impl.ConvergentsOf(long, 999999)
	expect(t, "the greatest denominator", show(whole), show(append(less, fractionOf(1009, 1000000))))
}

func TestNearestFraction(t *testing.T) {
	p := picker(101)
	for _, a := range someNumbers(400) {
		for _, most := range []int64{1000, int64(1 + p.below(1000)), int64(1 + p.below(20)), 1} {
			near, code := impl.NearestFraction(a, most)
			expect(t, "NearestFraction "+show(a, most), show(near, code), show(wantNearest(a, most), 0))
		}
	}
	// These are nearly as far from two fractions.
	for range 3000 {
		most := int64(1 + p.below(60))
		a := p.betweenFractions(most)
		near, code := impl.NearestFraction(a, most)
		expect(t, "NearestFraction "+show(a, most), show(near, code), show(wantNearest(a, most), 0))
	}
}

func TestNearestFractionAtLimits(t *testing.T) {
	cases := []struct {
		a    float32
		most int64
		near impl.Fraction
	}{
		{0.375, 1, fractionOf(0, 1)}, {0.375, 2, fractionOf(1, 2)}, {0.375, 3, fractionOf(1, 3)}, {0.375, 7, fractionOf(2, 5)}, {0.375, 8, fractionOf(3, 8)}, {0.375, 1000, fractionOf(3, 8)},
		// Of equally near ones with one denominator the lesser one is told.
		{0.5, 1, fractionOf(0, 1)}, {1.5, 1, fractionOf(1, 1)}, {1023.5, 1, fractionOf(1023, 1)}, {above(0.5), 1, fractionOf(1, 1)}, {below(0.5), 1, fractionOf(0, 1)}, {above(1.5), 1, fractionOf(2, 1)},
		// Of others the one with the least denominator, be it greater or less.
		{0.75, 2, fractionOf(1, 1)}, {0.75, 3, fractionOf(2, 3)}, {0.75, 4, fractionOf(3, 4)}, {0.25, 2, fractionOf(0, 1)}, {1.75, 2, fractionOf(2, 1)}, {1.25, 2, fractionOf(1, 1)}, {above(1.25), 2, fractionOf(3, 2)},
		{0.5, 2, fractionOf(1, 2)}, {0.5, 1000, fractionOf(1, 2)}, {1, 1, fractionOf(1, 1)}, {1, 1000, fractionOf(1, 1)}, {1024, 1, fractionOf(1024, 1)}, {1024, 1000, fractionOf(1024, 1)}, {33, 7, fractionOf(33, 1)},
		{leastTarget, 1, fractionOf(0, 1)}, {leastTarget, 512, fractionOf(0, 1)}, {leastTarget, 513, fractionOf(1, 513)}, {leastTarget, 1000, fractionOf(1, 1000)}, {above(leastTarget), 512, fractionOf(1, 512)},
		{0.33333334, 1000, fractionOf(1, 3)}, {below(1), 1000, fractionOf(1, 1)}, {above(1), 1000, fractionOf(1, 1)}, {below(1024), 1000, fractionOf(1024, 1)}, {math.Pi, 1000, fractionOf(355, 113)}, {math.Pi, 112, fractionOf(333, 106)},
		{math.Pi, 105, fractionOf(311, 99)}, {math.Pi, 7, fractionOf(22, 7)}, {math.Pi, 1, fractionOf(3, 1)}, {math.Phi, 1000, fractionOf(1597, 987)},
	}
	for _, c := range cases {
		near, code := impl.NearestFraction(c.a, c.most)
		expect(t, "NearestFraction "+show(c.a, c.most), show(near, code), show(c.near, 0))
	}
	for k := range 10 {
		// Both neighbours with denominators of at most 2 to the k are as near.
		most, half := int64(1)<<k, float32(math.Ldexp(1, -k-1))
		low, one := impl.NearestFraction(half, most)
		high, two := impl.NearestFraction(1-half, most)
		want := fractionOf(1, 1)
		if k == 0 {
			want = fractionOf(0, 1)
		}
		expect(t, "as near", show(low, one, high, two), show(fractionOf(0, 1), 0, want, 0))
	}
}

// Only numbers in the middle of two fractions tell whether the comparison is
// rounded.
func TestNearestFractionIsNotRounded(t *testing.T) {
	p := picker(102)
	narrow, wide := 0, 0
	for range 3000 {
		most := int64(2 + p.below(100))
		a := p.betweenFractions(most)
		near := wantNearest(a, most)
		got, code := impl.NearestFraction(a, most)
		expect(t, "NearestFraction "+show(a, most), show(got, code), show(near, 0))
		least := impl.Fraction{}
		off := float32(math.Inf(1))
		for den := int64(1); den <= most; den++ {
			num := int64(math.Round(float64(a) * float64(den)))
			if by := float32(math.Abs(float64(float32(num)/float32(den) - a))); by < off {
				least, off = fractionOf(num, den), by
			}
		}
		if least != near {
			narrow++
		} else {
			wide++
		}
	}
	if narrow < 5 || wide < 1000 {
		t.Errorf("roundings change %v of the nearest fractions, and leave %v", narrow, wide)
	}
}

func TestBoxTexts(t *testing.T) {
	cases := []struct {
		box  []int16
		text string
	}{
		{exampleBox(), "20 30 40 60"}, {[]int16{6, 7}, "6 7"}, {[]int16{6, 200}, "6 200"}, {[]int16{9, 10, 99, 100}, "9 10 99 100"},
		{evenBox(6, 1, 24), "6 7 8 9 10 11 12 13 14 15 16 17 18 19 20 21 22 23 24 25 26 27 28 29"},
	}
	for _, c := range cases {
		expect(t, "BoxText", impl.BoxText(c.box), c.text)
		read, code := impl.ReadBox(c.text)
		expect(t, "ReadBox", show(read, code), show(c.box, 0))
	}
	for _, box := range someBoxes(2000, 24) {
		read, code := impl.ReadBox(impl.BoxText(box))
		expect(t, "a box from its text", show(read, code), show(box, 0))
	}
}

func TestTextsOfNoBox(t *testing.T) {
	texts := []string{
		"", " ", "  ", "x", "20", "20 ", " 20", " 20 30", "20 30 ", "20  30", "20 30\n", "\n20 30", "20\t30", "20\n30", "20,30", "20, 30", "20/30", "20:30", "[20 30]", "20 30 x", "20 x 30", "x 20 30",
		"020 30", "20 030", "+20 30", "20 +30", "-20 30", "20 -30", "20 3 0", "20 30.0", "20.5 30", "2e1 30", "0x14 30", "2_0 30", "20 3_0", "5 20", "0 20", "00 20", "20 201", "20 0201", "20 256", "65542 65543", "20 65566", "6 65543", "20 4294967326",
		"20 20", "30 20", "20 40 30", "20 30 30", "20 30 40 40", "60 40 30 20", "20 99999999999999999999", "20 -9223372036854775809", "\xff20 30", "20 30\xff", "20\x0030", "20 30\x00", "２０ 30", "20\u00a030", "٢٠ 30",
		"6 7 8 9 10 11 12 13 14 15 16 17 18 19 20 21 22 23 24 25 26 27 28 29 30", "6 7 8 9 10 11 12 13 14 15 16 17 18 19 20 21 22 23 24 25 26 27 28 29 ", "6 7 8 9 10 11 12 13 14 15 16 17 18 19 20 21 22 23 24 25 26 27 28 29 29",
		strings.Repeat(" ", 1000000), strings.Repeat("2", 1000000), strings.Repeat("20 ", 333333), "20 " + strings.Repeat("0", 999000) + "30", "20 30" + strings.Repeat(" ", 999000), "20 30" + strings.Repeat(" 40", 333000),
	}
	for _, text := range texts {
		read, code := impl.ReadBox(text)
		if len(read) != 0 || code != impl.ErrSyntax {
			t.Errorf("ReadBox of %.60q: got %v %v", text, read, code)
		}
	}
	for _, box := range badBoxes() {
		expect(t, "the text of "+show(box), impl.BoxText(box), "")
		words := strings.Trim(strings.TrimSpace(show(box)), "[]")
		read, code := impl.ReadBox(words)
		expect(t, "ReadBox of "+words, show(len(read), code), show(0, impl.ErrSyntax))
	}
}

func TestErrorsOfBadBoxes(t *testing.T) {
	for _, box := range badBoxes() {
		// ErrInvalid is found before what the other errors stand for.
		for _, x := range append([]float32{0.5}, notTargets...) {
			expectInvalidBox(t, box, x, 0, 1, choiceOf(0, 1, 2, 3))
			expectInvalidBox(t, box, x, 0, 0, impl.Choice{})
			expectInvalidBox(t, box, x, -1, 99, choiceOf(-1, 99, 0, 0))
		}
	}
}

func expectInvalidBox(t *testing.T, box []int16, x float32, a, b int64, c impl.Choice) {
	t.Helper()
	pair, c1 := impl.FactorOfPair(box, a, b)
	choice, c2 := impl.FactorOfChoice(box, c)
	train, c3 := impl.TrainFor(box, c)
	expect(t, "invalid", show(pair, c1, choice, c2, len(train), c3), show(0, 1, 0, 1, 0, 1))
	first, second, off, c1 := impl.BestPair(box, x)
	best, far, c2 := impl.BestChoice(box, x)
	teeth, by, c3 := impl.AddWheel(box, x)
	expect(t, "invalid", show(first, second, off, c1, best, far, c2, teeth, by, c3), show(0, 0, 0, 1, impl.Choice{}, 0, 1, 0, 0, 1))
	pairs, c1 := impl.PairsWithin(box, x, x)
	count, c2 := impl.CountChoices(box, x, x)
	all, c3 := impl.AllFactors(box)
	between, c4 := impl.FactorsBetween(box, x, -1)
	lesser, step, c5 := impl.WidestStep(box)
	expect(t, "invalid", show(len(pairs), c1, count, c2, len(all), c3, len(between), c4, lesser, step, c5), show(0, 1, 0, 1, 0, 1, 0, 1, 0, 0, 1))
}

func TestRangesOfTargets(t *testing.T) {
	for _, x := range notTargets {
		off, one := impl.OffBy(1, x)
		both, two := impl.OffBy(nan, x)
		expect(t, "no target", show(off, one, both, two), show(0, 2, 0, 2))
		// ErrRange is found before ErrNotFound and ErrLimit.
		for _, box := range [][]int16{{20, 30}, {20, 30, 40}, exampleBox(), evenBox(6, 1, 23), evenBox(6, 1, 24)} {
			a, b, off, c1 := impl.BestPair(box, x)
			best, far, c2 := impl.BestChoice(box, x)
			teeth, by, c3 := impl.AddWheel(box, x)
			expect(t, "no target", show(a, b, off, c1, best, far, c2, teeth, by, c3), show(0, 0, 0, 2, impl.Choice{}, 0, 2, 0, 0, 2))
			pairs, c1 := impl.PairsWithin(box, x, 0.5)
			count, c2 := impl.CountChoices(box, x, 0.5)
			expect(t, "no target", show(len(pairs), c1, count, c2), show(0, 2, 0, 2))
		}
		f, c1 := impl.ExactOf(x)
		list, c2 := impl.ConvergentsOf(x, 8)
		none, c3 := impl.ConvergentsOf(x, 0)
		near, c4 := impl.NearestFraction(x, 8)
		great, c5 := impl.NearestFraction(x, 1001)
		expect(t, "no fraction", show(f, c1, len(list), c2, len(none), c3, near, c4, great, c5), show("{0 0}", 2, 0, 2, 0, 2, "{0 0}", 2, "{0 0}", 2))
	}
	for _, x := range notPlains {
		off, one := impl.OffBy(x, 1)
		low, two := impl.FactorsBetween(exampleBox(), x, 1)
		high, three := impl.FactorsBetween(exampleBox(), 0.5, x)
		both, four := impl.FactorsBetween(exampleBox(), x, x)
		expect(t, "not plain", show(off, one, len(low), two, len(high), three, len(both), four), show(0, 2, 0, 2, 0, 2, 0, 2))
	}
	for _, x := range noParts {
		for _, box := range [][]int16{{20, 30}, {20, 30, 40}, exampleBox()} {
			pairs, one := impl.PairsWithin(box, 1, x)
			count, two := impl.CountChoices(box, 1, x)
			expect(t, "no part", show(len(pairs), one, count, two), show(0, 2, 0, 2))
		}
	}
}

func TestReachedRangesOfTargets(t *testing.T) {
	box := exampleBox()
	for _, x := range []float32{leastTarget, above(leastTarget), 1, below(greatestTarget), greatestTarget} {
		for _, y := range []float32{0, negZero, tiny, below(1), 1} {
			_, c1 := impl.OffBy(plainest, x)
			_, c2 := impl.OffBy(-plainest, x)
			_, _, _, c3 := impl.BestPair(box, x)
			_, _, c4 := impl.BestChoice(box, x)
			_, c5 := impl.PairsWithin(box, x, y)
			_, c6 := impl.CountChoices(box, x, y)
			_, _, c7 := impl.AddWheel(box, x)
			_, c8 := impl.ExactOf(x)
			_, c9 := impl.ConvergentsOf(x, 1)
			_, c10 := impl.ConvergentsOf(x, 1000000)
			_, c11 := impl.NearestFraction(x, 1)
			_, c12 := impl.NearestFraction(x, 1000)
			expect(t, "codes", show(c1, c2, c3, c4, c5, c6, c7, c8, c9, c10, c11, c12), show(0, 0, 0, 0, 0, 0, 0, 0, 0, 0, 0, 0))
		}
	}
}

func TestErrorsOfIndices(t *testing.T) {
	box := exampleBox()
	for _, no := range append([]int64{4, 5}, noWheels...) {
		for _, wheel := range []int64{0, 1, 3, no} {
			// ErrRange is found before ErrState.
			first, one := impl.FactorOfPair(box, no, wheel)
			second, two := impl.FactorOfPair(box, wheel, no)
			expect(t, "no wheel "+show(no), show(first, one, second, two), show(0, 2, 0, 2))
		}
	}
	for wheel := range int64(4) {
		factor, code := impl.FactorOfPair(box, wheel, wheel)
		expect(t, "the same wheel", show(factor, code), show(0, impl.ErrState))
	}
	for _, no := range []int{-1, -2, 4, 5, 24, 255, 256, math.MinInt16, math.MaxInt16} {
		for _, c := range []impl.Choice{choiceOf(no, 1, 2, 3), choiceOf(0, no, 2, 3), choiceOf(0, 1, no, 3), choiceOf(0, 1, 2, no), choiceOf(no, 0, 0, 0), choiceOf(0, no, 0, 0), choiceOf(0, 0, no, 1), choiceOf(1, 1, 1, no), choiceOf(no, no, no, no)} {
			expectChoiceError(t, box, c, impl.ErrRange)
		}
	}
	for _, box := range [][]int16{exampleBox(), {20, 30, 40, 60, 80}} {
		expectChoiceErrors(t, box)
	}
	expectChoiceError(t, []int16{20, 30}, choiceOf(0, 1, 0, 1), impl.ErrState)
	expectChoiceError(t, []int16{20, 30}, choiceOf(0, 1, 1, 0), impl.ErrState)
	expectChoiceError(t, []int16{20, 30, 40}, choiceOf(0, 1, 2, 1), impl.ErrState)
	expectChoiceError(t, []int16{20, 30, 40}, choiceOf(0, 1, 2, 3), impl.ErrRange)
}

// expectChoiceErrors tries all choices of a box, of wheels that are the same
// and of wheels that are different.
func expectChoiceErrors(t *testing.T, box []int16) {
	t.Helper()
	valid := wantChoices(box)
	for a := range box {
		for b := range box {
			for c := range box {
				for d := range box {
					choice := choiceOf(a, b, c, d)
					if !slices.Contains(valid, choice) {
						expectChoiceError(t, box, choice, impl.ErrState)
					} else if _, code := impl.FactorOfChoice(box, choice); code != 0 {
						t.Errorf("%v has the code %v", choice, code)
					}
				}
			}
		}
	}
}

func expectChoiceError(t *testing.T, box []int16, c impl.Choice, want int) {
	t.Helper()
	factor, one := impl.FactorOfChoice(box, c)
	train, two := impl.TrainFor(box, c)
	expect(t, "errors of "+show(c), show(factor, one, len(train), two), show(0, want, 0, want))
}

func TestOtherErrorsOfBoxes(t *testing.T) {
	for _, x := range []float32{leastTarget, 0.5, 1, greatestTarget} {
		for _, box := range [][]int16{{20, 30}, {20, 30, 40}} {
			best, off, code := impl.BestChoice(box, x)
			expect(t, "few wheels", show(best, off, code), show(impl.Choice{}, 0, impl.ErrNotFound))
		}
		for _, box := range [][]int16{evenBox(6, 1, 24), evenBox(177, 1, 24), evenBox(20, 5, 24)} {
			teeth, off, code := impl.AddWheel(box, x)
			expect(t, "a full box", show(teeth, off, code), show(0, 0, impl.ErrLimit))
		}
	}
	for _, limits := range [][2]float32{{2, 1}, {above(1), 1}, {1, below(1)}, {tiny, 0}, {0, -tiny}, {plainest, -plainest}, {1, -1}, {negZero, -tiny}} {
		list, code := impl.FactorsBetween(exampleBox(), limits[0], limits[1])
		expect(t, "low above high", show(len(list), code), show(0, impl.ErrRange))
	}
}

func TestErrorsOfDenominators(t *testing.T) {
	for _, a := range []float32{leastTarget, 0.375, 1, greatestTarget} {
		for _, most := range []int64{0, -1, 1000001, 1 << 32, 1<<32 + 8, math.MinInt64, math.MaxInt64} {
			list, one := impl.ConvergentsOf(a, most)
			near, two := impl.NearestFraction(a, most)
			expect(t, "no denominator "+show(most), show(len(list), one, near, two), show(0, 2, "{0 0}", 2))
		}
		for _, most := range []int64{1001, 1002, 65536, 999999, 1000000} {
			near, code := impl.NearestFraction(a, most)
			expect(t, "a great denominator", show(near, code), show("{0 0}", impl.ErrLimit))
		}
	}
}

// The oracles are right about what they want of continued fractions.
func TestContinued(t *testing.T) {
	list := []*big.Int{big.NewInt(0), big.NewInt(2), big.NewInt(1), big.NewInt(2)}
	expect(t, "continued", continued(list).String(), "3/8")
	expect(t, "continued", continued(list[:3]).String(), "1/3")
	expect(t, "continued", continued(list[:1]).String(), "0/1")
}
