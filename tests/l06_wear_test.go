package tests

import (
	"math"
	"slices"
	"strings"
	"testing"

	"loop.example/g01344/impl"
)

func TestLimitsOfWear(t *testing.T) {
	expect(t, "limits", show(impl.MaxWeeks, impl.MaxHard, float32(impl.MaxHard)), show(104, 65536, hardest))
}

func TestValidTooth(t *testing.T) {
	for _, tooth := range someTeeth(1000) {
		if !impl.ValidTooth(tooth) {
			t.Errorf("%+v is not valid", tooth)
		}
	}
	for _, tooth := range badTeeth() {
		if impl.ValidTooth(tooth) {
			t.Errorf("%+v is valid", tooth)
		}
	}
}

func TestSameTooth(t *testing.T) {
	list := []impl.Tooth{exampleTooth(), {}, toothOf(64, 0, 0, 1), toothOf(64, 0, 0, -1), toothOf(64, 0, 0, 127), toothOf(64, 0.5, 0.25, 0), toothOf(64, 0.25, 0.5, 0), toothOf(64, 0.25, 0.5, 1)}
	for _, x := range []float32{negZero, tiny, -tiny, above(64), inf, -inf, nan} {
		list = append(list, toothOf(x, 0, 0, 0), toothOf(64, x, 0, 0), toothOf(64, 0, x, 0))
	}
	for i, a := range list {
		for j, b := range list {
			if impl.SameTooth(a, b) != (i == j) {
				t.Errorf("SameTooth of %+v and %+v is %v", a, b, i != j)
			}
		}
	}
	if !impl.SameTooth(toothOf(nan, otherNaN, nan, 5), toothOf(otherNaN, nan, nan, 5)) {
		t.Errorf("NaN of other bits is not the same")
	}
}

func TestExampleOfWear(t *testing.T) {
	once, one := impl.WornBy(exampleTooth(), 16)
	twice, two := impl.WornBy(once, 16)
	weeks, three := impl.WeeksUntil(exampleTooth(), 16, 0.5)
	expect(t, "wear", show(once, one, twice, two, weeks, three), show(toothOf(64, 0.25, 0, 0), 0, toothOf(64, 0.5625, 0, 0), 0, 2, 0))
	plays := []float32{0.25, 0.5}
	along, one := impl.PlaysAlong(exampleTrain(), plays)
	last, two := impl.PlayAt(exampleTrain(), plays)
	widest, least, three := impl.WidestPlay(exampleTrain(), plays)
	expect(t, "play", show(along, one, last, two, widest, least, three), show([]float32{0.25, 1}, 0, 1, 0, 0, 0.5, 0))
}

func TestWornBy(t *testing.T) {
	list := someWears(20000)
	for _, c := range list {
		worn, code := impl.WornBy(c.tooth, c.load)
		expect(t, "WornBy "+show(c), show(worn, code), show(wantWorn(c.tooth, c.load), 0))
	}
	wear := func(c wearCase) float32 { return wantWorn(c.tooth, c.load).Wears[c.tooth.Side] }
	used := func(c wearCase) float32 { return c.tooth.Wears[c.tooth.Side] }
	tellsApart(t, "the quotient first", list, wear, func(c wearCase) float32 {
		return min(1, sum(used(c), product(quotient(c.load, c.tooth.Hard), sum(1, used(c)))))
	})
	tellsApart(t, "the sum divided first", list, wear, func(c wearCase) float32 {
		return min(1, sum(used(c), product(c.load, quotient(sum(1, used(c)), c.tooth.Hard))))
	})
	tellsApart(t, "a product that is not rounded", list, wear, func(c wearCase) float32 {
		return min(1, sum(used(c), rounds(float64(c.load)*float64(sum(1, used(c)))/float64(c.tooth.Hard))))
	})
	tellsApart(t, "a sum that is not rounded", list, wear, func(c wearCase) float32 {
		return min(1, sum(used(c), quotient(rounds(float64(c.load)*(1+float64(used(c)))), c.tooth.Hard)))
	})
	tellsApart(t, "a quotient that is not rounded", list, wear, func(c wearCase) float32 {
		return min(1, rounds(float64(used(c))+float64(product(c.load, sum(1, used(c))))/float64(c.tooth.Hard)))
	})
	tellsApart(t, "a product taken apart", list, wear, func(c wearCase) float32 {
		return min(1, sum(used(c), quotient(sum(c.load, product(c.load, used(c))), c.tooth.Hard)))
	})
	tellsApart(t, "the wear of the other side", list, wear, func(c wearCase) float32 {
		return min(1, sum(used(c), quotient(product(c.load, sum(1, c.tooth.Wears[1-c.tooth.Side])), c.tooth.Hard)))
	})
}

func TestWornByAtLimits(t *testing.T) {
	cases := []struct{ hard, wear, load, want float32 }{
		{64, 0, 16, 0.25}, {64, 0.25, 16, 0.5625}, {64, 0, 64, 1}, {64, 0, below(64), below(1)}, {64, 0, above(64), 1}, {64, 0, plainest, 1}, {softest, 1, plainest, 1}, {hardest, 1, plainest, 1},
		{64, 0.5, 21.25, 0.998046875}, {64, 0.5, 21.333332, 1}, {64, 0.5, 21.333334, 1}, {hardest, 0, 1, 1.0 / (1 << 16)}, {softest, 0, 1, 1}, {softest, 0, tiny, tiny}, {hardest, 0, tiny, 0},
		// What is worn less than half of the last bit is not worn; ties are rounded to even.
		{hardest, 0.5, tiny, 0.5}, {64, 1, 0, 1}, {64, below(1), tiny, below(1)}, {2, 0, tiny, 0}, {2, 0, 3 * tiny, 2 * tiny}, {2, tiny, 3 * tiny, 3 * tiny}, {softest, tiny, tiny, 2 * tiny},
		{64, 0, 0, 0}, {64, 0, negZero, 0}, {64, negZero, 0, 0}, {64, negZero, negZero, negZero}, {hardest, negZero, tiny, 0}, {64, 0.5, negZero, 0.5}, {64, 1, negZero, 1}, {64, tiny, negZero, tiny},
	}
	for _, c := range cases {
		for _, other := range []float32{0, negZero, 0.75, 1} {
			left, one := impl.WornBy(toothOf(c.hard, c.wear, other, 0), c.load)
			right, two := impl.WornBy(toothOf(c.hard, other, c.wear, 1), c.load)
			expect(t, "WornBy "+show(c), show(left, one, right, two), show(toothOf(c.hard, c.want, other, 0), 0, toothOf(c.hard, other, c.want, 1), 0))
		}
		expect(t, "wanted "+show(c), show(wantWorn(toothOf(c.hard, c.wear, 0, 0), c.load).Wears[0]), show(c.want))
	}
}

func TestWeeksUntil(t *testing.T) {
	counts := map[int]int{}
	for _, c := range someWears(20000) {
		weeks, code := impl.WeeksUntil(c.tooth, c.load, c.limit)
		want, wantCode := wantUntil(c)
		expect(t, "WeeksUntil "+show(c), show(weeks, code), show(want, wantCode))
		counts[want]++
		if wantCode != 0 {
			counts[-1]++
		}
	}
	if len(counts) < 100 || counts[0] < 1000 || counts[1] < 1000 || counts[-1] < 1000 {
		t.Errorf("there are too few numbers of weeks: %v", counts)
	}
}

func TestWeeksUntilAtLimits(t *testing.T) {
	cases := []struct {
		tooth       impl.Tooth
		load, limit float32
		weeks, code int
	}{
		{exampleTooth(), 16, 0, 1, 0}, {exampleTooth(), 16, negZero, 1, 0}, {exampleTooth(), 16, below(0.25), 1, 0}, {exampleTooth(), 16, 0.25, 2, 0}, {exampleTooth(), 16, below(0.5625), 2, 0}, {exampleTooth(), 16, 0.5625, 3, 0},
		{exampleTooth(), 16, below(1), 4, 0}, {exampleTooth(), plainest, below(1), 1, 0},
		// No wear is greater than 1.
		{exampleTooth(), plainest, 1, 0, impl.ErrNotFound}, {toothOf(64, 1, 1, 0), plainest, 1, 0, impl.ErrNotFound}, {toothOf(64, 1, 0, 0), 0, below(1), 0, 0},
		{exampleTooth(), 0, 0, 0, impl.ErrNotFound}, {exampleTooth(), negZero, negZero, 0, impl.ErrNotFound}, {toothOf(64, negZero, 0, 0), 0, negZero, 0, impl.ErrNotFound}, {toothOf(64, 0, 0, 0), 0, negZero, 0, impl.ErrNotFound},
		{toothOf(64, tiny, 0, 0), 0, 0, 0, 0}, {toothOf(64, tiny, 0, 0), 16, negZero, 0, 0}, {toothOf(64, tiny, 0, 0), 0, tiny, 0, impl.ErrNotFound},
		{toothOf(64, 0, 0.75, 0), 0, 0.5, 0, impl.ErrNotFound}, {toothOf(64, 0, 0.75, 1), 0, 0.5, 0, 0}, {toothOf(64, 0.75, 0, 1), 0, 0.5, 0, impl.ErrNotFound}, {toothOf(64, 0.75, 0, 1), 16, 0.5, 2, 0},
		{toothOf(hardest, 0.5, 0, 0), tiny, 0.5, 0, impl.ErrNotFound},
		// The softest tooth is worn by as much as the least number each week.
		{toothOf(softest, 0, 0, 0), tiny, 102 * tiny, 103, 0}, {toothOf(softest, 0, 0, 0), tiny, 103 * tiny, 104, 0}, {toothOf(softest, 0, 0, 0), tiny, 104 * tiny, 0, impl.ErrNotFound},
		{toothOf(softest, tiny, 0, 0), tiny, 104 * tiny, 104, 0}, {toothOf(softest, 0, 0, 1), tiny, 103 * tiny, 104, 0}, {toothOf(softest, 0, 0, 1), tiny, 105 * tiny, 0, impl.ErrNotFound},
	}
	for _, c := range cases {
		weeks, code := impl.WeeksUntil(c.tooth, c.load, c.limit)
		expect(t, "WeeksUntil "+show(c), show(weeks, code), show(c.weeks, c.code))
	}
}

func TestWearOfTurnedAndNewTeeth(t *testing.T) {
	for _, tooth := range someTeeth(5000) {
		wear, one := impl.WearOf(tooth)
		turned, two := impl.TurnTooth(tooth)
		fresh, three := impl.NewTooth(tooth)
		want := show(tooth.Wears[tooth.Side], 0, wantTurned(tooth), 0, toothOf(tooth.Hard, 0, 0, 0), 0)
		expect(t, "tooth "+show(tooth), show(wear, one, turned, two, fresh, three), want)
	}
	tooth := toothOf(64, 0.5, negZero, 1)
	wear, _ := impl.WearOf(tooth)
	turned, _ := impl.TurnTooth(tooth)
	again, _ := impl.TurnTooth(turned)
	fresh, _ := impl.NewTooth(tooth)
	expect(t, "sides", show(wear, turned, again, fresh), show(negZero, toothOf(64, 0.5, negZero, 0), tooth, exampleTooth()))
}

func TestPlaysAlongAndPlayAt(t *testing.T) {
	list := somePlays(20000)
	for _, c := range list {
		along, one := impl.PlaysAlong(c.train, c.plays)
		last, two := impl.PlayAt(c.train, c.plays)
		want := wantAlong(c)
		expect(t, "PlaysAlong "+show(c), show(along, one), show(want, 0))
		expect(t, "PlayAt "+show(c), show(last, two), show(want[len(want)-1], 0))
	}
	with := func(next func(before, driver, driven, play float32) float32) func(playCase) float32 {
		return func(c playCase) float32 {
			play := c.plays[0]
			for i, p := range c.train[1:] {
				play = next(play, float32(p.Driver), float32(p.Driven), c.plays[i+1])
			}
			return play
		}
	}
	tellsApart(t, "a product that is not rounded", list, wantPlay, with(func(before, driver, driven, play float32) float32 {
		return rounds(float64(before)*float64(quotient(driver, driven)) + float64(play))
	}))
	tellsApart(t, "a quotient that is not rounded", list, wantPlay, with(func(before, driver, driven, play float32) float32 {
		return sum(rounds(float64(before)*float64(driver)/float64(driven)), play)
	}))
	tellsApart(t, "the teeth of the driver first", list, wantPlay, with(func(before, driver, driven, play float32) float32 {
		return sum(quotient(product(before, driver), driven), play)
	}))
	tellsApart(t, "divided by the other quotient", list, wantPlay, with(func(before, driver, driven, play float32) float32 {
		return sum(quotient(before, quotient(driven, driver)), play)
	}))
	tellsApart(t, "the other quotient", list, wantPlay, with(func(before, driver, driven, play float32) float32 {
		return sum(product(before, quotient(driven, driver)), play)
	}))
	tellsApart(t, "from the last pair on", list, wantPlay, func(c playCase) float32 {
		whole, factor := c.plays[len(c.plays)-1], float32(1)
		for i := len(c.plays) - 1; i > 0; i-- {
			factor = product(factor, quotient(float32(c.train[i].Driver), float32(c.train[i].Driven)))
			whole = sum(whole, product(c.plays[i-1], factor))
		}
		return whole
	})
	tellsApart(t, "wide numbers", list, wantPlay, func(c playCase) float32 { return float32(widePlay(c)) })
}

// widePlay is the play behind the last pair without roundings, nearly.
func widePlay(c playCase) float64 {
	play := float64(c.plays[0])
	for i, p := range c.train[1:] {
		play = play*float64(p.Driver)/float64(p.Driven) + float64(c.plays[i+1])
	}
	return play
}

func TestPlayAtLimits(t *testing.T) {
	halving, doubling := pairOf(12, 24, 0), pairOf(24, 12, 0)
	cases := []struct {
		train impl.Train
		plays []float32
		along []float32
	}{
		// The quotient of the first pair does not matter, nor do losses.
		{impl.Train{pairOf(6, 200, 1)}, []float32{1}, []float32{1}}, {impl.Train{halving}, []float32{0}, []float32{0}}, {impl.Train{halving}, []float32{negZero}, []float32{negZero}}, {impl.Train{halving}, []float32{tiny}, []float32{tiny}},
		{impl.Train{pairOf(6, 200, 0), pairOf(12, 24, 1)}, []float32{1, 1}, []float32{1, 1.5}}, {impl.Train{halving, doubling}, []float32{1, 1}, []float32{1, 3}},
		{impl.Train{halving, halving}, []float32{0, negZero}, []float32{0, 0}}, {impl.Train{halving, halving}, []float32{negZero, 0}, []float32{negZero, 0}}, {impl.Train{halving, halving}, []float32{negZero, negZero}, []float32{negZero, negZero}},
		{impl.Train{halving, halving, halving}, []float32{negZero, negZero, negZero}, []float32{negZero, negZero, negZero}}, {impl.Train{halving, halving, halving}, []float32{negZero, negZero, tiny}, []float32{negZero, negZero, tiny}},
		{impl.Train{halving, halving}, []float32{tiny, negZero}, []float32{tiny, 0}}, {impl.Train{halving, halving}, []float32{3 * tiny, tiny}, []float32{3 * tiny, 3 * tiny}}, {impl.Train{doubling, halving}, []float32{5 * tiny, 0}, []float32{5 * tiny, 2 * tiny}},
		{evenTrain(8), []float32{1, 1, 1, 1, 1, 1, 1, 1}, []float32{1, 2, 3, 4, 5, 6, 7, 8}}, {evenTrain(8), []float32{0, 0, 1, 0, 0, 0.5, 0, negZero}, []float32{0, 0, 1, 1, 1, 1.5, 1.5, 1.5}},
		// What is less than half of the last bit is lost each time, but not if it adds up first.
		{evenTrain(4), []float32{1, 1.0 / (1 << 24), 1.0 / (1 << 24), 1.0 / (1 << 24)}, []float32{1, 1, 1, 1}}, {evenTrain(4), []float32{1.0 / (1 << 24), 1.0 / (1 << 24), 1.0 / (1 << 24), 1}, []float32{1.0 / (1 << 24), 2.0 / (1 << 24), 3.0 / (1 << 24), 1 + 2.0/(1<<23)}},
		{impl.Train{doubling, doubling, doubling}, []float32{0.5, 0.25, 0.125}, []float32{0.5, 1.25, 2.625}}, {impl.Train{doubling, halving, doubling}, []float32{0.5, 0.25, 0.125}, []float32{0.5, 0.5, 1.125}},
	}
	for _, c := range cases {
		along, one := impl.PlaysAlong(c.train, c.plays)
		last, two := impl.PlayAt(c.train, c.plays)
		expect(t, "play "+show(c), show(along, one, last, two), show(c.along, 0, c.along[len(c.along)-1], 0))
		expect(t, "wanted "+show(c), show(wantAlong(playCase{c.train, c.plays})), show(c.along))
	}
	greatest := playCase{repeated(pairOf(200, 6, 0), 8), slices.Repeat([]float32{1}, 8)}
	last, code := impl.PlayAt(greatest.train, greatest.plays)
	expect(t, "the greatest play", show(last, code), show(wantPlay(greatest), 0))
	if !(last > 4.7e10 && last < 4.8e10) {
		t.Errorf("the greatest play is %v", last)
	}
}

func TestPlayBounds(t *testing.T) {
	p := picker(115)
	codes := map[int]int{}
	for _, c := range somePlays(5000) {
		highs := slices.Clone(c.plays)
		for i := range highs {
			if p.below(4) > 0 {
				highs[i] = min(1, product(highs[i], p.between(1, 4)))
			}
		}
		want := show(wantPlay(c), wantPlay(playCase{c.train, highs}), 0)
		if p.below(3) == 0 {
			if at := p.below(len(highs)); c.plays[at] > 0 {
				highs[at] = below(c.plays[at])
				want = show(0, 0, impl.ErrState)
			}
		}
		low, high, code := impl.PlayBounds(c.train, c.plays, highs)
		expect(t, "PlayBounds "+show(c, highs), show(low, high, code), want)
		codes[int(code)]++
	}
	if codes[0] < 1000 || codes[impl.ErrState] < 500 {
		t.Errorf("PlayBounds has too few codes of a kind: %v", codes)
	}
}

func TestPlayBoundsAtLimits(t *testing.T) {
	train := exampleTrain()
	cases := []struct {
		lows, highs []float32
		low, high   float32
		code        int
	}{
		{[]float32{0, 0.5}, []float32{0.25, 0.5}, 0.5, 1, 0}, {[]float32{0.25, 0.5}, []float32{0.25, 0.5}, 1, 1, 0}, {[]float32{0, 0}, []float32{1, 1}, 0, 3, 0},
		// 0 is not greater than -0.
		{[]float32{0, 0}, []float32{negZero, negZero}, 0, negZero, 0}, {[]float32{negZero, negZero}, []float32{0, 0}, negZero, 0, 0},
		{[]float32{above(0.25), 0.5}, []float32{0.25, 0.5}, 0, 0, impl.ErrState}, {[]float32{0.25, above(0.5)}, []float32{0.25, 0.5}, 0, 0, impl.ErrState},
		{[]float32{tiny, 0.5}, []float32{0, 1}, 0, 0, impl.ErrState}, {[]float32{0, tiny}, []float32{1, negZero}, 0, 0, impl.ErrState}, {[]float32{0.25, 0.5}, []float32{0.5, 0.25}, 0, 0, impl.ErrState},
		{[]float32{0, 1}, []float32{1, 1}, 1, 3, 0}, {[]float32{0, 1}, []float32{1, below(1)}, 0, 0, impl.ErrState},
	}
	for _, c := range cases {
		low, high, code := impl.PlayBounds(train, c.lows, c.highs)
		expect(t, "PlayBounds "+show(c), show(low, high, code), show(c.low, c.high, c.code))
	}
}

func TestWidestPlay(t *testing.T) {
	list := somePlays(20000)
	places, ties := map[int]int{}, 0
	for _, c := range list {
		widest, least, code := impl.WidestPlay(c.train, c.plays)
		want, wantLeast := wantWidest(c)
		expect(t, "WidestPlay "+show(c), show(widest, least, code), show(want, wantLeast, 0))
		places[want]++
		for i := want + 1; i < len(c.plays); i++ {
			if wantPlay(c.without(i)) == wantLeast {
				ties++
			}
		}
	}
	if len(places) < 8 || ties < 500 {
		t.Errorf("there are too few places %v or ties %v of widest plays", places, ties)
	}
	least := func(c playCase) float32 { _, a := wantWidest(c); return a }
	tellsApart(t, "the play of a pair taken away", list, least, func(c playCase) float32 {
		pair, _ := wantWidest(c)
		factor := float32(1)
		for _, p := range c.train[pair+1:] {
			factor = product(factor, quotient(float32(p.Driver), float32(p.Driven)))
		}
		return difference(wantPlay(c), product(c.plays[pair], factor))
	})
	tellsApart(t, "the pair with the greatest play", list, least, func(c playCase) float32 {
		pair, _ := firstLeast(c.plays, func(play float32) float32 { return -play })
		return wantPlay(c.without(pair))
	})
}

func TestWidestPlayAtLimits(t *testing.T) {
	halving, doubling := pairOf(12, 24, 0), pairOf(24, 12, 0)
	cases := []struct {
		train  impl.Train
		plays  []float32
		widest int
		least  float32
	}{
		{exampleTrain(), []float32{0.25, 0.5}, 0, 0.5}, {exampleTrain(), []float32{0.25, above(0.5)}, 1, 0.5}, {exampleTrain(), []float32{above(0.25), 0.5}, 0, 0.5},
		{impl.Train{halving}, []float32{1}, 0, 0}, {impl.Train{halving}, []float32{0}, 0, 0}, {impl.Train{halving}, []float32{negZero}, 0, 0},
		{evenTrain(8), make([]float32, 8), 0, 0}, {evenTrain(3), []float32{negZero, negZero, negZero}, 0, 0}, {evenTrain(3), []float32{0, negZero, tiny}, 2, 0},
		{evenTrain(3), []float32{0.5, 0.5, 0.5}, 0, 1}, {evenTrain(3), []float32{0.25, 0.5, 0.5}, 1, 0.75}, {evenTrain(3), []float32{0.25, 0.5, above(0.5)}, 2, 0.75},
		{impl.Train{doubling, doubling, doubling}, []float32{0.125, 0.25, 0.5}, 0, 1}, {impl.Train{halving, halving, halving}, []float32{1, 0.5, 0.25}, 0, 0.5}, {impl.Train{halving, halving, halving}, []float32{1, 0.75, 0.25}, 1, 0.5},
		// Roundings hide that the second play is greater.
		{evenTrain(3), []float32{tiny, 2 * tiny, 1}, 2, 3 * tiny}, {evenTrain(3), []float32{1.0 / (1 << 26), 1.0 / (1 << 25), 1}, 2, 3.0 / (1 << 26)}, {append(evenTrain(2), pairOf(6, 200, 0)), []float32{tiny, 2 * tiny, 0}, 0, 0},
	}
	for _, c := range cases {
		widest, least, code := impl.WidestPlay(c.train, c.plays)
		expect(t, "WidestPlay "+show(c), show(widest, least, code), show(c.widest, c.least, 0))
		pair, want := wantWidest(playCase{c.train, c.plays})
		expect(t, "wanted "+show(c), show(pair, want), show(c.widest, c.least))
	}
}

func TestPlaysOf(t *testing.T) {
	p := picker(116)
	for _, train := range someTrains(2000) {
		var teeth []impl.Tooth
		var want []float32
		for range train {
			tooth := p.tooth()
			teeth, want = append(teeth, tooth), append(want, tooth.Wears[tooth.Side])
		}
		plays, code := impl.PlaysOf(train, teeth)
		expect(t, "PlaysOf "+show(train, teeth), show(plays, code), show(want, 0))
	}
	plays, code := impl.PlaysOf(evenTrain(4), []impl.Tooth{toothOf(64, negZero, 1, 0), toothOf(64, negZero, 1, 1), toothOf(1, 1, tiny, 1), toothOf(hardest, 0, 0, 0)})
	expect(t, "PlaysOf", show(plays, code), show([]float32{negZero, 1, tiny, 0}, 0))
}

func TestWeekOf(t *testing.T) {
	counts := map[bool]int{}
	for _, c := range someYears(10000) {
		for _, torque := range c.torques[:min(2, len(c.torques))] {
			teeth, changes, code := impl.WeekOf(c.train, c.teeth, torque, c.limit)
			c.torques = []float32{torque}
			want, wantChanges := wantYear(c)
			expect(t, "WeekOf "+show(c), show(teeth, changes, code), show(want, wantChanges, 0))
			for _, change := range changes {
				counts[change.New]++
			}
		}
	}
	if counts[false] < 2000 || counts[true] < 2000 {
		t.Errorf("there are too few changes of a kind: %v", counts)
	}
}

func TestWeekOfAtLimits(t *testing.T) {
	turn, replace := []impl.Change{changeOf(0, 0, false)}, []impl.Change{changeOf(0, 0, true)}
	cases := []struct {
		tooth   impl.Tooth
		limit   float32
		want    impl.Tooth
		changes []impl.Change
	}{
		{toothOf(64, 0.5, 0.25, 0), 0.5, toothOf(64, 0.875, 0.25, 0), nil}, {toothOf(64, 0.5, 0.25, 1), 0.5, toothOf(64, 0.5, 0.5625, 1), nil},
		{toothOf(64, 0.5, 0.25, 0), below(0.5), toothOf(64, 0.5, 0.5625, 1), turn}, {toothOf(64, 0.25, 0.5, 1), below(0.5), toothOf(64, 0.5625, 0.5, 0), turn},
		{toothOf(64, above(0.5), 0.5, 0), 0.5, toothOf(64, above(0.5), 0.875, 1), turn}, {toothOf(64, above(0.5), above(0.5), 0), 0.5, toothOf(64, 0.25, 0, 0), replace},
		{toothOf(64, 0.5, above(0.5), 0), 0.5, toothOf(64, 0.875, above(0.5), 0), nil}, {toothOf(64, 1, 1, 1), below(1), toothOf(64, 0.25, 0, 0), replace},
		// No wear is greater than 1, not even behind the week.
		{toothOf(64, 1, 1, 0), 1, toothOf(64, 1, 1, 0), nil}, {toothOf(64, below(1), 0, 0), 1, toothOf(64, 1, 0, 0), nil}, {toothOf(64, 1, 0, 0), below(1), toothOf(64, 1, 0.25, 1), turn},
		{toothOf(64, 0, 0, 0), 0, toothOf(64, 0.25, 0, 0), nil}, {toothOf(64, 0, 0, 1), negZero, toothOf(64, 0, 0.25, 1), nil}, {toothOf(64, tiny, 0, 0), 0, toothOf(64, tiny, 0.25, 1), turn},
		{toothOf(64, tiny, negZero, 0), negZero, toothOf(64, tiny, 0.25, 1), turn}, {toothOf(64, tiny, tiny, 1), negZero, toothOf(64, 0.25, 0, 0), replace}, {toothOf(64, tiny, tiny, 1), tiny, toothOf(64, tiny, 0.25, 1), nil},
		{toothOf(16, 0.75, 0.25, 0), 0.5, toothOf(16, 0.75, 1, 1), turn}, {toothOf(softest, 1, 1, 1), 0.5, toothOf(softest, 1, 0, 0), replace}, {toothOf(hardest, 1, negZero, 0), 0.5, toothOf(hardest, 1, 1.0/(1<<12), 1), turn},
	}
	for _, c := range cases {
		for _, torque := range []float32{16, -16} {
			teeth, changes, code := impl.WeekOf(evenTrain(1), []impl.Tooth{c.tooth}, torque, c.limit)
			expect(t, "WeekOf "+show(c), show(teeth, changes, code), show([]impl.Tooth{c.want}, c.changes, 0))
		}
	}
}

// The torque of a driven wheel, whatever its sign, is the load of a pair.
func TestLoadsOfWeeks(t *testing.T) {
	train := impl.Train{pairOf(12, 48, 0.5), pairOf(20, 10, 0), pairOf(10, 10, 1), pairOf(10, 20, 0)}
	even := slices.Repeat([]impl.Tooth{exampleTooth()}, 4)
	for _, torque := range []float32{4, -4} {
		teeth, changes, code := impl.WeekOf(train, even, torque, 0)
		want := []impl.Tooth{toothOf(64, 0.125, 0, 0), toothOf(64, 0.0625, 0, 0), exampleTooth(), exampleTooth()}
		expect(t, "WeekOf", show(teeth, changes, code), show(want, []impl.Change{}, 0))
	}
	// The size of -0 is -0: the wear stays -0 by the load -0 only.
	none := slices.Repeat([]impl.Tooth{toothOf(64, negZero, negZero, 1)}, 4)
	some, same := toothOf(64, negZero, 0, 1), none[0]
	teeth, _, _ := impl.WeekOf(train, none, 0, 0)
	expect(t, "the torque 0", show(teeth), show([]impl.Tooth{same, some, same, some}))
	teeth, _, _ = impl.WeekOf(train, none, negZero, negZero)
	expect(t, "the torque -0", show(teeth), show([]impl.Tooth{some, same, some, same}))
	hard := slices.Repeat([]impl.Tooth{toothOf(hardest, 0, 0, 0)}, 8)
	teeth, changes, code := impl.WeekOf(repeated(pairOf(6, 200, 0), 8), hard, plainest, 0)
	expect(t, "the greatest loads", show(teeth, changes, code), show(slices.Repeat([]impl.Tooth{toothOf(hardest, 1, 0, 0)}, 8), []impl.Change{}, 0))
	teeth, changes, code = impl.WeekOf(repeated(pairOf(200, 6, 0), 8), hard, tiny, 0)
	expect(t, "the least loads", show(teeth, changes, code), show(hard, []impl.Change{}, 0))
}

func TestYearOf(t *testing.T) {
	counts := map[bool]int{}
	weeks := map[int16]bool{}
	for _, c := range someYears(2000) {
		teeth, changes, code := impl.YearOf(c.train, c.teeth, c.torques, c.limit)
		want, wantChanges := wantYear(c)
		expect(t, "YearOf", show(teeth, changes, code), show(want, wantChanges, 0))
		for _, change := range changes {
			counts[change.New]++
			weeks[change.Week] = true
		}
	}
	if counts[false] < 2000 || counts[true] < 2000 || len(weeks) != 104 {
		t.Errorf("there are too few changes %v or weeks of them %v", counts, len(weeks))
	}
}

func TestYearOfAtLimits(t *testing.T) {
	teeth := []impl.Tooth{exampleTooth(), toothOf(64, 0.75, 0.75, 1), toothOf(128, 0.75, 0, 0)}
	torques := []float32{16, -16, 16, 0, negZero, 16, 16}
	six, changes, one := impl.YearOf(evenTrain(3), teeth, torques[:6], 0.5)
	wantChanges := []impl.Change{changeOf(0, 1, true), changeOf(0, 2, false), changeOf(2, 0, false), changeOf(2, 1, false)}
	want := []impl.Tooth{toothOf(64, 0.5625, 0.5625, 1), toothOf(64, 0.5625, 0.5625, 1), toothOf(128, 0.75, 0.601806640625, 1)}
	expect(t, "six weeks", show(six, changes, one), show(want, wantChanges, 0))
	seven, changes, two := impl.YearOf(evenTrain(3), teeth, torques, 0.5)
	wantChanges = append(wantChanges, changeOf(6, 0, true), changeOf(6, 1, true), changeOf(6, 2, true))
	want = []impl.Tooth{toothOf(64, 0.25, 0, 0), toothOf(64, 0.25, 0, 0), toothOf(128, 0.125, 0, 0)}
	expect(t, "seven weeks", show(seven, changes, two), show(want, wantChanges, 0))
	for _, none := range [][]float32{nil, {}} {
		last, changes, code := impl.YearOf(evenTrain(3), teeth, none, 0)
		expect(t, "no weeks", show(last, len(changes), code), show(teeth, 0, 0))
	}
}

// A tooth that is turned or replaced in each week of the longest year.
func TestLongestYears(t *testing.T) {
	for _, weeks := range []int{103, 104} {
		var want []impl.Change
		for week := 1; week < weeks; week++ {
			for pair := range 8 {
				want = append(want, changeOf(int16(week), int8(pair), week%2 == 0))
			}
		}
		torques := slices.Repeat([]float32{16}, weeks)
		teeth, changes, code := impl.YearOf(evenTrain(8), slices.Repeat([]impl.Tooth{exampleTooth()}, 8), torques, 0)
		last := toothOf(64, 0.25, 0.25, 1)
		if weeks == 103 {
			last = exampleTooth()
			last.Wears[0] = 0.25
		}
		expect(t, "the longest year", show(teeth, changes, code), show(slices.Repeat([]impl.Tooth{last}, 8), want, 0))
		turned, replaced, code := impl.CountChanges(changes)
		expect(t, "CountChanges", show(turned, replaced, code), show(8*(weeks/2), 8*((weeks-1)/2), 0))
	}
}

func TestCountChanges(t *testing.T) {
	p := picker(117)
	for range 500 {
		list := make([]impl.Change, p.below(833))
		turned, replaced := 0, 0
		for i := range list {
			list[i] = changeOf(int16(p.below(104)), int8(p.below(8)), p.below(3) == 0)
			if list[i].New {
				replaced++
			} else {
				turned++
			}
		}
		one, two, code := impl.CountChanges(list)
		expect(t, "CountChanges", show(one, two, code), show(turned, replaced, 0))
	}
}

func TestCountChangesAtLimits(t *testing.T) {
	turn, replace := changeOf(0, 0, false), changeOf(0, 0, true)
	cases := []struct {
		list             []impl.Change
		turned, replaced int
		code             int
	}{
		{nil, 0, 0, 0}, {[]impl.Change{}, 0, 0, 0}, {[]impl.Change{turn}, 1, 0, 0}, {[]impl.Change{replace}, 0, 1, 0}, {[]impl.Change{turn, replace, turn, turn}, 3, 1, 0},
		// No change of a week or a pair that there is not is told as wrong.
		{[]impl.Change{changeOf(-1, -1, false), changeOf(math.MaxInt16, math.MaxInt8, true), changeOf(math.MinInt16, math.MinInt8, true), changeOf(0, -1, false)}, 2, 2, 0},
		{make([]impl.Change, 832), 832, 0, 0}, {slices.Repeat([]impl.Change{replace}, 832), 0, 832, 0}, {make([]impl.Change, 833), 0, 0, impl.ErrLimit}, {slices.Repeat([]impl.Change{replace}, 1000), 0, 0, impl.ErrLimit},
	}
	for _, c := range cases {
		turned, replaced, code := impl.CountChanges(c.list)
		expect(t, "CountChanges of "+show(len(c.list)), show(turned, replaced, code), show(c.turned, c.replaced, c.code))
	}
}

func TestQuietWeeks(t *testing.T) {
	counts := map[int]int{}
	p := picker(118)
	for _, c := range someYears(3000) {
		torque := p.plain()
		if len(c.torques) > 0 {
			torque = c.torques[0]
		}
		if p.below(3) == 0 {
			c.limit = 0.75
			for i, tooth := range c.teeth {
				c.teeth[i] = toothOf(min(product(tooth.Hard, 8), hardest), 0, tooth.Wears[1], 0)
			}
		}
		weeks, code := impl.QuietWeeks(c.train, c.teeth, torque, c.limit)
		want := wantQuiet(c, torque)
		expect(t, "QuietWeeks "+show(c, torque), show(weeks, code), show(want, 0))
		counts[want]++
	}
	if len(counts) < 40 || counts[0] < 100 || counts[104] < 100 {
		t.Errorf("there are too few numbers of weeks: %v", counts)
	}
}

func TestQuietWeeksAtLimits(t *testing.T) {
	soft := toothOf(softest, 0, 0, 0)
	cases := []struct {
		teeth         []impl.Tooth
		torque, limit float32
		weeks         int
	}{
		{[]impl.Tooth{exampleTooth()}, 16, 0.5, 2}, {[]impl.Tooth{exampleTooth()}, -16, 0.5, 2}, {[]impl.Tooth{exampleTooth()}, 16, 0.5625, 3}, {[]impl.Tooth{exampleTooth()}, 16, 1, 104}, {[]impl.Tooth{exampleTooth()}, 0, 0, 104},
		{[]impl.Tooth{toothOf(64, above(0.5), 0, 0)}, 16, 0.5, 0}, {[]impl.Tooth{toothOf(64, 0.5, 0, 0)}, 16, 0.5, 1}, {[]impl.Tooth{toothOf(64, 0.25, 1, 0)}, 16, 0.5, 1}, {[]impl.Tooth{toothOf(64, 1, 0.25, 1)}, 0, 0.5, 104},
		// A change in the week 104 is none of the year.
		{[]impl.Tooth{soft}, tiny, 101 * tiny, 102}, {[]impl.Tooth{soft}, tiny, 102 * tiny, 103}, {[]impl.Tooth{soft}, tiny, 103 * tiny, 104}, {[]impl.Tooth{soft}, tiny, 104 * tiny, 104},
		{[]impl.Tooth{exampleTooth(), toothOf(32, 0, 0, 1)}, 16, 0.5, 2}, {[]impl.Tooth{exampleTooth(), toothOf(32, 0, 0, 1)}, 16, 0.4375, 1}, {[]impl.Tooth{exampleTooth(), toothOf(64, 0, 0.75, 1)}, 16, 0.5, 0},
	}
	for _, c := range cases {
		weeks, code := impl.QuietWeeks(evenTrain(len(c.teeth)), c.teeth, c.torque, c.limit)
		expect(t, "QuietWeeks "+show(c), show(weeks, code), show(c.weeks, 0))
	}
}

// notNumbers are in none of the ranges of this chapter, or not in all of them.
var notNumbers = []float32{0.5, -1, 2, above(plainest), nan, inf}

func TestErrorsOfBadTeeth(t *testing.T) {
	train := exampleTrain()
	for _, bad := range badTeeth() {
		// ErrInvalid is found before what the other errors stand for.
		for _, x := range notNumbers {
			wear, c1 := impl.WearOf(bad)
			worn, c2 := impl.WornBy(bad, x)
			weeks, c3 := impl.WeeksUntil(bad, x, x)
			turned, c4 := impl.TurnTooth(bad)
			fresh, c5 := impl.NewTooth(bad)
			expect(t, "a bad tooth", show(wear, c1, worn, c2, weeks, c3, turned, c4, fresh, c5), show(0, 1, impl.Tooth{}, 1, 0, 1, impl.Tooth{}, 1, impl.Tooth{}, 1))
			for _, count := range []int{1, 2, 3, 1000} {
				for _, at := range []int{0, count / 2, count - 1} {
					teeth := slices.Repeat([]impl.Tooth{exampleTooth()}, count)
					teeth[at] = bad
					expectNoWeeks(t, train, teeth, x, x, impl.ErrInvalid)
					plays, code := impl.PlaysOf(train, teeth)
					expect(t, "plays of a bad tooth", show(len(plays), code), show(0, impl.ErrInvalid))
				}
			}
		}
		expect(t, "text", impl.ToothText(bad), "")
	}
}

// expectNoWeeks expects the same error of a week, of quiet weeks, and of years
// of all lengths.
func expectNoWeeks(t *testing.T, train impl.Train, teeth []impl.Tooth, torque, limit float32, want int) {
	t.Helper()
	week, changes, one := impl.WeekOf(train, teeth, torque, limit)
	quiet, two := impl.QuietWeeks(train, teeth, torque, limit)
	expect(t, "no week", show(len(week), len(changes), one, quiet, two), show(0, 0, want, 0, want))
	for _, count := range []int{1, 104, 105} {
		expectNoYear(t, train, teeth, slices.Repeat([]float32{torque}, count), limit, want)
	}
}

func expectNoYear(t *testing.T, train impl.Train, teeth []impl.Tooth, torques []float32, limit float32, want int) {
	t.Helper()
	year, changes, code := impl.YearOf(train, teeth, torques, limit)
	expect(t, "no year", show(len(year), len(changes), code), show(0, 0, want))
}

func expectNoPlays(t *testing.T, train impl.Train, plays []float32, want int) {
	t.Helper()
	last, c1 := impl.PlayAt(train, plays)
	along, c2 := impl.PlaysAlong(train, plays)
	widest, least, c3 := impl.WidestPlay(train, plays)
	expect(t, "no plays", show(last, c1, len(along), c2, widest, least, c3), show(0, want, 0, want, 0, 0, want))
	// Lows and highs have this error, whatever the other ones are.
	for _, others := range [][]float32{plays, make([]float32, len(train)), slices.Repeat([]float32{1}, len(train)), slices.Repeat([]float32{nan}, len(train))} {
		low, high, one := impl.PlayBounds(train, plays, others)
		lower, higher, two := impl.PlayBounds(train, others, plays)
		expect(t, "no bounds", show(low, high, one, lower, higher, two), show(0, 0, want, 0, 0, want))
	}
}

func TestErrorsOfBadTrains(t *testing.T) {
	for _, bad := range badTrains() {
		for _, x := range notNumbers {
			for _, count := range []int{len(bad), 0, 1, 9} {
				expectNoWeeks(t, bad, slices.Repeat([]impl.Tooth{exampleTooth()}, count), x, x, impl.ErrInvalid)
				expectNoPlays(t, bad, slices.Repeat([]float32{x}, count), impl.ErrInvalid)
			}
		}
		plays, one := impl.PlaysOf(bad, slices.Repeat([]impl.Tooth{exampleTooth()}, len(bad)))
		none, two := impl.PlaysOf(bad, nil)
		expect(t, "plays of a bad train", show(len(plays), one, len(none), two), show(0, 1, 0, 1))
	}
}

func TestRangesOfWear(t *testing.T) {
	tooth, train := exampleTooth(), exampleTrain()
	for _, x := range notSizes {
		worn, c1 := impl.WornBy(tooth, x)
		weeks, c2 := impl.WeeksUntil(tooth, x, 0.5)
		// ErrRange is found where no load would matter, and before ErrNotFound.
		none, c3 := impl.WeeksUntil(toothOf(64, 1, 1, 0), x, 0.5)
		never, c4 := impl.WeeksUntil(tooth, x, 1)
		expect(t, "no load", show(worn, c1, weeks, c2, none, c3, never, c4), show(impl.Tooth{}, 2, 0, 2, 0, 2, 0, 2))
	}
	for _, x := range noParts {
		weeks, c1 := impl.WeeksUntil(tooth, 16, x)
		never, c2 := impl.WeeksUntil(tooth, 0, x)
		expect(t, "no limit", show(weeks, c1, never, c2), show(0, 2, 0, 2))
		// ErrRange is found before ErrState.
		for count := range 4 {
			expectNoWeeks(t, train, slices.Repeat([]impl.Tooth{tooth}, count), 16, x, impl.ErrRange)
			expectNoYear(t, train, slices.Repeat([]impl.Tooth{tooth}, count), nil, x, impl.ErrRange)
		}
	}
	for _, x := range notPlains {
		for count := range 4 {
			expectNoWeeks(t, train, slices.Repeat([]impl.Tooth{tooth}, count), x, 0.5, impl.ErrRange)
		}
	}
}

func TestErrorsOfYears(t *testing.T) {
	train, teeth := exampleTrain(), []impl.Tooth{exampleTooth(), exampleTooth()}
	for _, count := range []int{1, 2, 104, 105, 1000} {
		for _, at := range []int{0, 1, 103, 104, count - 1} {
			for _, x := range notPlains {
				if at >= count {
					continue
				}
				torques := slices.Repeat([]float32{16}, count)
				torques[at] = x
				expectNoYear(t, train, teeth, torques, 0.5, impl.ErrRange)
				expectNoYear(t, train, teeth[:1], torques, 0.5, impl.ErrRange)
				expectNoYear(t, train, append(teeth, impl.Tooth{}), torques, 0.5, impl.ErrInvalid)
			}
		}
	}
	for _, count := range []int{105, 106, 1000} {
		torques := slices.Repeat([]float32{16}, count)
		expectNoYear(t, train, teeth, torques, 0.5, impl.ErrLimit)
		// ErrState, ErrRange and ErrInvalid are found before ErrLimit.
		expectNoYear(t, train, teeth[:1], torques, 0.5, impl.ErrState)
		expectNoYear(t, train, teeth, torques, above(1), impl.ErrRange)
		expectNoYear(t, nil, teeth, torques, 0.5, impl.ErrInvalid)
	}
}

func TestErrorsOfOtherNumbersOfTeeth(t *testing.T) {
	for pairs := 1; pairs <= 8; pairs++ {
		train := repeated(pairOf(12, 48, 0.5), pairs)
		for _, count := range []int{0, 1, 2, 7, 8, 9, 1000} {
			teeth := slices.Repeat([]impl.Tooth{exampleTooth()}, count)
			if count == pairs {
				continue
			}
			expectNoWeeks(t, train, teeth, 16, 0.5, impl.ErrState)
			expectNoYear(t, train, teeth, nil, 0.5, impl.ErrState)
			plays, code := impl.PlaysOf(train, teeth)
			expect(t, "PlaysOf", show(len(plays), code), show(0, impl.ErrState))
		}
		expectNoWeeks(t, train, nil, 16, 0.5, impl.ErrState)
	}
}

func TestErrorsOfPlays(t *testing.T) {
	for pairs := 1; pairs <= 8; pairs++ {
		train := repeated(pairOf(12, 48, 0.5), pairs)
		expectNoPlays(t, train, nil, impl.ErrRange)
		for _, count := range []int{0, 1, 2, 7, 8, 9, 1000} {
			if count != pairs {
				expectNoPlays(t, train, make([]float32, count), impl.ErrRange)
			}
		}
		for at := range pairs {
			for _, x := range noParts {
				plays := slices.Repeat([]float32{0.5}, pairs)
				plays[at] = x
				expectNoPlays(t, train, plays, impl.ErrRange)
			}
		}
	}
}

func TestReachedRangesOfWear(t *testing.T) {
	for _, tooth := range []impl.Tooth{toothOf(softest, 0, 1, 0), toothOf(hardest, negZero, tiny, 1), toothOf(64, 1, negZero, 0)} {
		for _, limit := range []float32{0, negZero, tiny, below(1), 1} {
			for _, x := range []float32{0, negZero, tiny, plainest, -tiny, -plainest} {
				train, teeth := evenTrain(8), slices.Repeat([]impl.Tooth{tooth}, 8)
				_, _, c1 := impl.WeekOf(train, teeth, x, limit)
				_, _, c2 := impl.YearOf(train, teeth, slices.Repeat([]float32{x}, 104), limit)
				_, c3 := impl.QuietWeeks(train, teeth, x, limit)
				expect(t, "codes", show(c1, c2, c3), show(0, 0, 0))
				if x >= 0 {
					_, one := impl.WornBy(tooth, x)
					_, two := impl.WeeksUntil(tooth, x, limit)
					expect(t, "codes", show(one, two == 0 || two == impl.ErrNotFound), show(0, true))
				}
			}
			_, c1 := impl.PlayAt(evenTrain(8), slices.Repeat([]float32{limit}, 8))
			_, _, c2 := impl.PlayBounds(evenTrain(1), []float32{limit}, []float32{limit})
			expect(t, "codes", show(c1, c2), show(0, 0))
		}
	}
}

func TestToothTexts(t *testing.T) {
	cases := []struct {
		tooth impl.Tooth
		text  string
	}{
		{exampleTooth(), "42800000,00000000,00000000,0"}, {toothOf(64, 0.5625, 0, 0), "42800000,3f100000,00000000,0"}, {toothOf(64, 0, 0.5625, 1), "42800000,00000000,3f100000,1"},
		{toothOf(softest, negZero, 1, 1), "3f800000,80000000,3f800000,1"}, {toothOf(hardest, tiny, 2*tiny, 0), "47800000,00000001,00000002,0"}, {toothOf(hardest, 1, negZero, 0), "47800000,3f800000,80000000,0"},
	}
	for _, c := range cases {
		expect(t, "ToothText", impl.ToothText(c.tooth), c.text)
		read, code := impl.ReadTooth(c.text)
		expect(t, "ReadTooth", show(read, code), show(c.tooth, 0))
	}
	for _, tooth := range someTeeth(2000) {
		read, code := impl.ReadTooth(impl.ToothText(tooth))
		if code != 0 || !impl.SameTooth(read, tooth) {
			t.Errorf("%+v is read as %+v, %v", tooth, read, code)
		}
	}
}

func TestTextsOfNoTooth(t *testing.T) {
	texts := []string{
		"", ",", ",,", ",,,", ",,,,", "x", "42800000", "42800000,3f100000,00000000", "42800000,3f100000,00000000,", ",42800000,3f100000,00000000", "42800000,3f100000,0", "3f100000,00000000,0",
		"42800000,3f100000,00000000,0,", ",42800000,3f100000,00000000,0", "42800000,3f100000,00000000,0,0", "42800000,3f100000,00000000,0,42800000", "42800000,,3f100000,00000000,0", "42800000,,00000000,0",
		"42800000/3f100000/00000000/0", "42800000 3f100000 00000000 0", "42800000, 3f100000, 00000000, 0", " 42800000,3f100000,00000000,0", "42800000,3f100000,00000000,0 ", "42800000,3f100000,00000000,0\n",
		"42800000,3f100000,00000000,2", "42800000,3f100000,00000000,-1", "42800000,3f100000,00000000,-0", "42800000,3f100000,00000000,+0", "42800000,3f100000,00000000,+1", "42800000,3f100000,00000000,00", "42800000,3f100000,00000000,01",
		"42800000,3f100000,00000000,256", "42800000,3f100000,00000000,257", "42800000,3f100000,00000000,0x0", "42800000,3f100000,00000000,1_0", "42800000,3f100000,00000000,00000000", "42800000,3f100000,00000000,3f800000", "42800000,3f100000,00000000,a",
		"42800000,3F100000,00000000,0", "4280000,3f100000,00000000,0", "042800000,3f100000,00000000,0", "4280000g,3f100000,00000000,0", "+2800000,3f100000,00000000,0", "64,0.5625,0,0", "0,42800000,3f100000,00000000",
		"3f7fffff,3f100000,00000000,0", "47800001,3f100000,00000000,0", "00000000,3f100000,00000000,0", "c2800000,3f100000,00000000,0", "42800000,3f800001,00000000,0", "42800000,3f100000,3f800001,0", "42800000,80000001,00000000,0", "42800000,3f100000,80000001,0",
		"7fc00000,3f100000,00000000,0", "42800000,7fc00000,00000000,0", "42800000,3f100000,7fc00000,0", "42800000,3f100000,ffc00000,0", "7f800000,3f100000,00000000,0", "42800000,7f800000,00000000,0", "42800000,3f100000,ff800000,0",
		"\xff2800000,3f100000,00000000,0", "42800000,3f100000,00000000,\xff", "42800000,3f100000,00000000,0\x00",
		strings.Repeat(",", 1000000), strings.Repeat("4", 1000000), strings.Repeat("42800000,", 111111), "42800000,3f100000,00000000," + strings.Repeat("0", 999000),
	}
	for _, text := range texts {
		read, code := impl.ReadTooth(text)
		if read != (impl.Tooth{}) || code != impl.ErrSyntax {
			t.Errorf("ReadTooth of %.60q: got %+v %v", text, read, code)
		}
	}
}
