package tests

import (
	"math"
	"slices"
	"strings"
	"testing"

	"loop.example/g01344/impl"
)

func TestLimitsOfStones(t *testing.T) {
	expect(t, "limits", show(impl.MaxRates, impl.MaxHalvings, impl.Dull, float32(impl.Dull)), show(60, 60, 4096, 4096))
}

func TestIsRate(t *testing.T) {
	for _, a := range []float32{0, negZero, tiny, 1, below(greatestRate), greatestRate} {
		if !impl.IsRate(a) {
			t.Errorf("%v is no rate", a)
		}
	}
	for _, a := range notRates {
		if impl.IsRate(a) {
			t.Errorf("%v is a rate", a)
		}
	}
}

func TestValidStone(t *testing.T) {
	for _, s := range someStones(1000) {
		if !impl.ValidStone(s) {
			t.Errorf("%+v is not valid", s)
		}
	}
	for _, s := range badStones() {
		if impl.ValidStone(s) {
			t.Errorf("%+v is valid", s)
		}
	}
}

func TestSameStone(t *testing.T) {
	list := []impl.Stone{exampleStone(), {}, stoneOf(1, 2, 0.5, 1), stoneOf(2, 1, 0.5, 1)}
	for _, x := range []float32{negZero, tiny, -tiny, above(2), inf, -inf, nan} {
		list = append(list, stoneOf(x, 0.5, 1, 1), stoneOf(2, x, 1, 1), stoneOf(2, 0.5, x, 1), stoneOf(2, 0.5, 1, x))
	}
	list = append(list, stoneOf(0, 0.5, 1, 1), stoneOf(2, 0, 1, 1), stoneOf(2, 0.5, 0, 1), stoneOf(2, 0.5, 1, 0))
	for i, a := range list {
		for j, b := range list {
			if impl.SameStone(a, b) != (i == j) {
				t.Errorf("SameStone of %+v and %+v is %v", a, b, i != j)
			}
		}
	}
	if !impl.SameStone(stoneOf(nan, otherNaN, nan, otherNaN), stoneOf(otherNaN, nan, nan, nan)) {
		t.Errorf("NaN of other bits is not the same")
	}
}

func TestExampleOfStones(t *testing.T) {
	s := exampleStone()
	load, one := impl.LoadOf(s, 4, 2)
	flour, two := impl.FlourOf(s, 4, 2)
	feed, three := impl.FeedFor(s, 6, 4)
	expect(t, "the speed 4", show(load, one, flour, two, feed, three), show(6, 0, 8, 0, 2, 0))
	speed, one := impl.SteadySpeed(s, 6, 2, 8)
	still, two := impl.SteadySpeed(s, 3, 2, 8)
	expect(t, "SteadySpeed", show(speed, one, still, two), show(4, 0, 0, impl.ErrNotFound))
	dull, code := impl.Dulled(s, 1024)
	expect(t, "Dulled", show(dull, code), show(withGrit(s, 0.75), 0))
}

// turning is a stone with a speed and a feed.
type turning struct {
	stone       impl.Stone
	speed, feed float32
}

func someTurnings(count int) []turning {
	p := picker(63)
	var list []turning
	for _, s := range someStones(count) {
		list = append(list, turning{s, p.rate(), p.rate()})
	}
	return list
}

func TestLoadOfAndFlourOf(t *testing.T) {
	for _, c := range someTurnings(20000) {
		load, one := impl.LoadOf(c.stone, c.speed, c.feed)
		flour, two := impl.FlourOf(c.stone, c.speed, c.feed)
		expect(t, "LoadOf "+show(c), show(load, one), show(wantLoad(c.stone, c.speed, c.feed), 0))
		expect(t, "FlourOf "+show(c), show(flour, two), show(wantFlour(c.stone, c.speed, c.feed), 0))
	}
}

func TestRoundingsOfLoadsAndFlour(t *testing.T) {
	list := someTurnings(20000)
	load := func(c turning) float32 { return wantLoad(c.stone, c.speed, c.feed) }
	flour := func(c turning) float32 { return wantFlour(c.stone, c.speed, c.feed) }
	tellsApart(t, "load from right to left", list, load, func(c turning) float32 {
		return sum(c.stone.Drag, sum(product(c.stone.Rub, c.speed), product(c.stone.Bite, c.feed)))
	})
	tellsApart(t, "load with a rub that is not rounded", list, load, func(c turning) float32 {
		idle := rounds(float64(c.stone.Drag) + float64(c.stone.Rub)*float64(c.speed))
		return sum(idle, product(c.stone.Bite, c.feed))
	})
	tellsApart(t, "load with a bite that is not rounded", list, load, func(c turning) float32 {
		return rounds(float64(wantIdle(c.stone, c.speed)) + float64(c.stone.Bite)*float64(c.feed))
	})
	tellsApart(t, "flour with the grit before the feed", list, flour, func(c turning) float32 {
		return product(product(c.speed, c.stone.Grit), c.feed)
	})
	tellsApart(t, "flour with the grit of the feed", list, flour, func(c turning) float32 {
		return product(c.speed, product(c.feed, c.stone.Grit))
	})
}

func TestLoadsAndFlourAtLimits(t *testing.T) {
	great, none := stoneOf(1024, 1024, 1024, 1), stoneOf(negZero, negZero, negZero, negZero)
	cases := []struct {
		stone                    impl.Stone
		speed, feed, load, flour float32
	}{
		{great, 1024, 1024, 2098176, plainest}, {great, 0, 0, 1024, 0}, {great, negZero, negZero, 1024, 0}, {great, negZero, 0, 1024, negZero},
		{great, 0, negZero, 1024, negZero}, {great, tiny, tiny, 1024, 0}, {great, tiny, 1024, 1049600, 1024 * tiny},
		{none, 0, 0, negZero, negZero}, {none, negZero, 0, 0, 0}, {none, 0, negZero, 0, 0}, {none, 1024, 1024, negZero, negZero},
		{impl.Stone{}, 0, 0, 0, 0}, {impl.Stone{}, negZero, negZero, 0, 0}, {impl.Stone{}, 0, negZero, 0, negZero},
		{stoneOf(tiny, tiny, tiny, tiny), 1, 1, 3 * tiny, tiny}, {stoneOf(tiny, tiny, tiny, tiny), 0.5, 0.5, tiny, 0},
		{stoneOf(0, tiny, 0, 0.5), 0.75, tiny, tiny, 0}, {stoneOf(0, tiny, 0, 0.5), 1, 3 * tiny, tiny, 2 * tiny},
	}
	for _, c := range cases {
		load, one := impl.LoadOf(c.stone, c.speed, c.feed)
		flour, two := impl.FlourOf(c.stone, c.speed, c.feed)
		expect(t, "turning "+show(c), show(load, one, flour, two), show(c.load, 0, c.flour, 0))
	}
}

func TestFeedFor(t *testing.T) {
	p := picker(64)
	codes := map[int]int{}
	for _, s := range someStones(20000) {
		speed := p.rate()
		torque := p.torqueFor(s, p.rate())
		feed, code := impl.FeedFor(s, torque, speed)
		want, wantCode := wantFeed(s, torque, speed)
		expect(t, "FeedFor "+show(s, torque, speed), show(feed, code), show(want, wantCode))
		codes[wantCode]++
	}
	if codes[0] < 4000 || codes[impl.ErrNotFound] < 4000 {
		t.Errorf("FeedFor has too few codes of a kind: %v", codes)
	}
}

func TestFeedForAtLimits(t *testing.T) {
	smooth, none := stoneOf(2, 0.5, 0, 1), stoneOf(negZero, negZero, negZero, 0)
	cases := []struct {
		stone               impl.Stone
		torque, speed, feed float32
		code                int
	}{
		{exampleStone(), 4, 4, 0, 0}, {exampleStone(), below(4), 4, 0, impl.ErrNotFound}, {exampleStone(), above(4), 4, above(4) - 4, 0},
		{exampleStone(), 1028, 4, 1024, 0}, {exampleStone(), above(1028), 4, 1024, 0}, {exampleStone(), below(1028), 4, 1024 - 1.0/8192, 0}, {exampleStone(), plainest, 4, 1024, 0},
		{exampleStone(), 0, 0, 0, impl.ErrNotFound}, {exampleStone(), negZero, negZero, 0, impl.ErrNotFound},
		// Nothing is found even if there is no bite that would divide.
		{smooth, 4, 4, 1024, 0}, {smooth, below(4), 4, 0, impl.ErrNotFound}, {smooth, plainest, 4, 1024, 0},
		{stoneOf(2, 0.5, negZero, 1), 4, 4, 1024, 0}, {stoneOf(2, 0.5, negZero, 1), below(4), 4, 0, impl.ErrNotFound},
		{none, 0, 0, 1024, 0}, {none, negZero, 0, 1024, 0}, {none, negZero, 1024, 1024, 0}, {stoneOf(negZero, negZero, 1, 0), negZero, negZero, negZero, 0},
		{stoneOf(0, 0, 1, 0), negZero, 0, negZero, 0}, {stoneOf(0, 0, 1, 0), 0, 0, 0, 0}, {stoneOf(negZero, negZero, 1, 0), negZero, 1, 0, 0},
		{stoneOf(0, 0, tiny, 0), plainest, 0, 1024, 0}, {stoneOf(0, 0, tiny, 0), tiny, 0, 1, 0}, {stoneOf(0, 0, tiny, 0), 1024 * tiny, 0, 1024, 0},
		{stoneOf(0, 0, 1024, 0), plainest, 0, 1024, 0}, {stoneOf(0, 0, 1024, 0), tiny, 0, 0, 0},
	}
	for _, c := range cases {
		feed, code := impl.FeedFor(c.stone, c.torque, c.speed)
		expect(t, "FeedFor "+show(c), show(feed, code), show(c.feed, c.code))
	}
}

func TestSteadySpeed(t *testing.T) {
	p := picker(65)
	codes := map[int]int{}
	for _, c := range someHours(5000) {
		for _, halvings := range []int{0, 1, 8, 40, 60, p.below(61)} {
			speed, code := impl.SteadySpeed(c.stone, c.torque, c.feed, int64(halvings))
			want, wantCode := wantTurning(wantAll(c.feed, c.stone), c.torque, halvings)
			expect(t, "SteadySpeed "+show(c, halvings), show(speed, code), show(want, wantCode))
			codes[wantCode]++
		}
	}
	if codes[0] < 6000 || codes[impl.ErrNotFound] < 3000 {
		t.Errorf("SteadySpeed has too few codes of a kind: %v", codes)
	}
}

// Each halving matters, up to the last one: none is left out because nothing
// seems to change, and none is added until something settles.
func TestHalvings(t *testing.T) {
	hours := someHours(5000)
	at := func(halvings int) func(hourCase) float32 {
		return func(c hourCase) float32 {
			speed, _ := wantTurning(wantAll(c.feed, c.stone), c.torque, halvings)
			return speed
		}
	}
	for halvings := range 60 {
		tellsApart(t, "as many halvings as "+show(halvings), hours, at(halvings), at(halvings+1))
	}
	for halvings := range int64(61) {
		// No load is greater than the torque: the speed gets near to 1024, and
		// is rounded to it at last.
		free, one := impl.SteadySpeed(impl.Stone{}, 0, 1024, halvings)
		want := float32(1024)
		if halvings <= 24 {
			want -= float32(math.Ldexp(1024, -int(halvings)))
		}
		expect(t, "no load", show(free, one), show(want, 0))
		// Any speed is too great: the middle gets near to 0, but never low.
		stuck, two := impl.SteadySpeed(stoneOf(0, 1, 0, 1), 0, 1, halvings)
		expect(t, "a torque that allows no speed", show(stuck, two), show(0, 0))
		// This speed is the middle of the last halving.
		last, three := impl.SteadySpeed(stoneOf(0, 1, 0, 1), float32(math.Ldexp(1, -50)), 0, halvings)
		want = 0
		if halvings == 60 {
			want = float32(math.Ldexp(1, -50))
		}
		expect(t, "a speed that the last halving finds", show(last, three), show(want, 0))
	}
}

func TestSteadySpeedAtLimits(t *testing.T) {
	s, rough := exampleStone(), stoneOf(0, 1, 0, 1)
	nearest := float32(1024 - 1.0/16384)
	cases := []struct {
		stone        impl.Stone
		torque, feed float32
		halvings     int64
		speed        float32
		code         int
	}{
		{s, 4, 2, 0, 0, 0}, {s, below(4), 2, 0, 0, impl.ErrNotFound}, {s, below(4), 2, 60, 0, impl.ErrNotFound}, {s, above(4), 2, 0, 0, 0},
		{s, 6, 2, 7, 0, 0}, {s, 6, 2, 8, 4, 0}, {s, 6, 2, 9, 4, 0}, {s, below(6), 2, 8, 0, 0},
		// Roundings hide what makes these speeds differ from 4 and 0.
		{s, 6, 2, 30, 4, 0}, {s, 6, 2, 31, above(4), 0}, {s, 6, 2, 60, above(4), 0}, {s, below(6), 2, 60, below(below(below(4))), 0},
		{s, 4, 2, 60, below(3.0 / (1 << 22)), 0}, {stoneOf(0, 1024, 1024, 1), plainest, 1024, 60, 1.0 / (1 << 14), 0},
		{s, plainest, 2, 1, 512, 0}, {s, 260, 2, 1, 512, 0}, {s, below(260), 2, 1, 0, 0}, {s, plainest, 2, 60, 1024, 0},
		{rough, 512, 0, 1, 512, 0}, {rough, below(512), 0, 1, 0, 0}, {rough, nearest, 0, 60, nearest, 0}, {rough, below(nearest), 0, 60, below(nearest), 0},
		{rough, 1024, 0, 60, 1024, 0}, {rough, 0, 0, 60, 0, 0}, {rough, negZero, negZero, 60, 0, 0}, {rough, tiny, 0, 60, 0, 0},
		{stoneOf(negZero, negZero, negZero, 0), negZero, negZero, 2, 768, 0}, {stoneOf(tiny, 0, 0, 0), 0, 0, 40, 0, impl.ErrNotFound},
		{stoneOf(tiny, 0, 0, 0), negZero, 0, 40, 0, impl.ErrNotFound}, {stoneOf(tiny, 0, 0, 0), tiny, 0, 40, 1024, 0},
		{stoneOf(0, 0, tiny, 0), 0, 1, 40, 0, impl.ErrNotFound}, {stoneOf(0, 0, tiny, 0), 0, 0.5, 40, 1024, 0},
		{stoneOf(1024, 1024, 1024, 1), plainest, 1024, 60, 0, impl.ErrNotFound},
	}
	for _, c := range cases {
		speed, code := impl.SteadySpeed(c.stone, c.torque, c.feed, c.halvings)
		expect(t, "SteadySpeed "+show(c), show(speed, code), show(c.speed, c.code))
	}
}

// grinding is a stone with what it has ground.
type grinding struct {
	stone impl.Stone
	flour float32
}

func someGrindings(count int) []grinding {
	p := picker(66)
	// Only where numbers are subnormal is a quotient by 4096 rounded.
	list := []grinding{{stoneOf(0, 0, 0, tiny), above(2048)}}
	for _, s := range someStones(count) {
		list = append(list, grinding{s, p.flours()})
	}
	return list
}

func TestDulledAndDressed(t *testing.T) {
	list := someGrindings(20000)
	for _, c := range list {
		dull, one := impl.Dulled(c.stone, c.flour)
		sharp, two := impl.Dressed(c.stone)
		expect(t, "Dulled "+show(c), show(dull, one), show(wantDulled(c.stone, c.flour), 0))
		expect(t, "Dressed "+show(c), show(sharp, two), show(withGrit(c.stone, 1), 0))
	}
	grit := func(c grinding) float32 { return wantDulled(c.stone, c.flour).Grit }
	tellsApart(t, "grit with the product first", list, grit, func(c grinding) float32 {
		return max(0, difference(c.stone.Grit, quotient(product(c.stone.Grit, c.flour), 4096)))
	})
	tellsApart(t, "grit with a product that is not rounded", list, grit, func(c grinding) float32 {
		return max(0, rounds(float64(c.stone.Grit)-float64(c.stone.Grit)*float64(quotient(c.flour, 4096))))
	})
	tellsApart(t, "grit times what is left", list, grit, func(c grinding) float32 {
		return max(0, product(c.stone.Grit, difference(1, quotient(c.flour, 4096))))
	})
}

func TestDulledAtLimits(t *testing.T) {
	cases := []struct{ grit, flour, want float32 }{
		{1, 0, 1}, {1, negZero, 1}, {1, tiny, 1}, {1, 1024, 0.75}, {0.5, 1024, 0.375}, {1, 4096, 0}, {1, below(4096), 1.0 / (1 << 24)}, {1, above(4096), 0}, {1, plainest, 0},
		{0, 0, 0}, {0, negZero, 0}, {0, 4096, 0}, {0, plainest, 0}, {negZero, 0, 0}, {negZero, negZero, 0}, {negZero, 1, 0}, {negZero, 4096, 0}, {negZero, plainest, 0},
		{tiny, 0, tiny}, {tiny, 2048, tiny}, {tiny, above(2048), 0}, {tiny, 4096, 0}, {tiny, 8192, 0}, {0.5, 8192, 0}, {0.5, plainest, 0}, {below(1), 4096, 0},
	}
	for _, c := range cases {
		s := stoneOf(negZero, tiny, 1024, c.grit)
		dull, code := impl.Dulled(s, c.flour)
		expect(t, "Dulled "+show(c), show(dull, code), show(withGrit(s, c.want), 0))
	}
	for _, grit := range []float32{0, negZero, tiny, 0.5, below(1), 1} {
		sharp, code := impl.Dressed(stoneOf(negZero, tiny, 1024, grit))
		expect(t, "Dressed "+show(grit), show(sharp, code), show(stoneOf(negZero, tiny, 1024, 1), 0))
	}
}

func TestGrindHour(t *testing.T) {
	hours := someHours(10000)
	ground := 0
	for _, c := range hours {
		next, flour, code := impl.GrindHour(c.stone, c.torque, c.feed)
		want, wantFlour := wantHour(c, 40)
		expect(t, "GrindHour "+show(c), show(next, flour, code), show(want, wantFlour, 0))
		if wantFlour > 0 {
			ground++
		}
	}
	if ground < 1000 || ground > 9000 {
		t.Errorf("%v hours of 10000 have flour", ground)
	}
	flourOf := func(halvings int) func(hourCase) float32 {
		return func(c hourCase) float32 {
			_, flour := wantHour(c, halvings)
			return flour
		}
	}
	tellsApart(t, "39 halvings", hours, flourOf(40), flourOf(39))
	tellsApart(t, "41 halvings", hours, flourOf(40), flourOf(41))
}

func TestGrindHourAtLimits(t *testing.T) {
	s := exampleStone()
	dead := stoneOf(2, negZero, negZero, negZero)
	cases := []struct {
		stone              impl.Stone
		torque, feed       float32
		nextGrit, theFlour float32
	}{
		{s, 6, 2, 1 - 8.0/4096, above(8)}, {s, below(4), 2, 1, 0}, {s, 4, 2, 1, 767.0 / (1 << 29)}, {s, 6, 0, 1, 0}, {s, 6, negZero, 1, negZero}, {s, 0, 0, 1, 0}, {s, negZero, negZero, 1, 0},
		// A stone that stands still keeps -0, too; one that turns does not.
		{dead, below(2), 1, negZero, 0}, {dead, 0, negZero, negZero, 0}, {dead, 2, 1, 0, negZero}, {dead, 2, negZero, 0, 0},
		{stoneOf(0, 0, 0, 1), 0, 1024, 0, plainest}, {stoneOf(0, 0, 0, 1), negZero, 4, 0, 4096}, {stoneOf(0, 0, 0, 1), 0, 2, 0.5, 2048},
		{stoneOf(0, 0, 0, 0.5), 0, 4, 0.25, 2048}, {stoneOf(0, 0, 0, 0), plainest, 1024, 0, 0}, {stoneOf(0, 0, 0, tiny), plainest, 1024, tiny, plainest * tiny},
	}
	for _, c := range cases {
		next, flour, code := impl.GrindHour(c.stone, c.torque, c.feed)
		expect(t, "GrindHour "+show(c), show(next, flour, code), show(withGrit(c.stone, c.nextGrit), c.theFlour, 0))
	}
}

func TestGrindDayAndDressedDay(t *testing.T) {
	p := picker(67)
	dressings := 0
	for _, s := range someStones(1000) {
		feed, least := p.rate(), oneOf(&p, []float32{0, negZero, tiny, 0.5, 1, s.Grit, p.loss()})
		torques := p.torquesFor(s, feed, p.below(61))
		last, list, code := impl.GrindDay(s, torques, feed)
		want, wantList, none := wantDay(s, torques, feed, 0)
		expect(t, "GrindDay", show(last, list, none, code), show(want, wantList, 0, 0))
		last, list, times, code := impl.DressedDay(s, torques, feed, least)
		want, wantList, wantTimes := wantDay(s, torques, feed, least)
		expect(t, "DressedDay", show(last, list, times, code), show(want, wantList, wantTimes, 0))
		dressings += wantTimes
	}
	if dressings < 2000 {
		t.Errorf("stones are dressed only %v times", dressings)
	}
}

func TestDaysAtLimits(t *testing.T) {
	// This stone grinds 2048 in each hour in which it is sharp.
	s, torques := stoneOf(1, 0, 0, 1), []float32{1, 1, 0, 1, 1}
	last, list, code := impl.GrindDay(s, torques, 2)
	// An hour in which the stone stands still is an hour of the day.
	expect(t, "GrindDay", show(last, list, code), show(withGrit(s, 0.258270263671875), []float32{2048, 1024, 0, 768, 624}, 0))
	cases := []struct {
		grit, least float32
		list        []float32
		times       int
	}{
		{1, 0, []float32{2048, 1024, 0, 768, 624}, 0}, {1, 0.5, []float32{2048, 1024, 0, 2048, 1024}, 1}, {1, above(0.5), []float32{2048, 0, 0, 2048, 0}, 2},
		{1, 1, []float32{2048, 0, 0, 2048, 0}, 2}, {below(1), 1, []float32{0, 2048, 0, 2048, 0}, 3}, {0, 0, []float32{0, 0, 0, 0, 0}, 0},
		{negZero, 0, []float32{negZero, 0, 0, 0, 0}, 0}, {0, tiny, []float32{0, 2048, 0, 1024, 768}, 1}, {0.5, negZero, []float32{1024, 768, 0, 624, 528.9375}, 0},
	}
	for _, c := range cases {
		last, list, times, code := impl.DressedDay(withGrit(s, c.grit), torques, 2, c.least)
		want, _, _ := wantDay(withGrit(s, c.grit), torques, 2, c.least)
		expect(t, "DressedDay "+show(c), show(last, list, times, code), show(want, c.list, c.times, 0))
	}
}

func TestShortestAndLongestDays(t *testing.T) {
	s := stoneOf(negZero, tiny, 1024, negZero)
	for _, none := range [][]float32{nil, {}} {
		last, list, code := impl.GrindDay(s, none, 2)
		expect(t, "no hours", show(last, len(list), code), show(s, 0, 0))
		last, list, times, code := impl.DressedDay(s, none, 2, 1)
		expect(t, "no hours", show(last, len(list), times, code), show(s, 0, 0, 0))
	}
	for _, count := range []int{1, 59, 60} {
		torques := slices.Repeat([]float32{6}, count)
		last, list, code := impl.GrindDay(exampleStone(), torques, 2)
		want, wantList, _ := wantDay(exampleStone(), torques, 2, 0)
		expect(t, "GrindDay", show(last, list, code), show(want, wantList, 0))
		last, list, times, code := impl.DressedDay(exampleStone(), torques, 2, 1)
		want, wantList, wantTimes := wantDay(exampleStone(), torques, 2, 1)
		expect(t, "DressedDay", show(last, list, times, code), show(want, wantList, count/2, 0))
		expect(t, "times", show(wantTimes), show(count/2))
	}
}

func TestSumOf(t *testing.T) {
	p := picker(68)
	var lists [][]float32
	for range 2000 {
		list := make([]float32, p.below(61))
		for i := range list {
			list[i] = p.plain()
			if p.below(2) == 0 {
				list[i] = p.between(0.5, 1024)
			}
		}
		lists = append(lists, list)
		whole, code := impl.SumOf(list)
		expect(t, "SumOf", show(whole, code), show(wantSum(list), 0))
	}
	tellsApart(t, "from right to left", lists, wantSum, func(list []float32) float32 {
		back := slices.Clone(list)
		slices.Reverse(back)
		return wantSum(back)
	})
	tellsApart(t, "a wide sum", lists, wantSum, func(list []float32) float32 {
		var wide float64
		for _, a := range list {
			wide += float64(a)
		}
		return float32(wide)
	})
}

func TestSumOfAtLimits(t *testing.T) {
	great := float32(math.MaxFloat32)
	cases := []struct {
		list []float32
		sum  float32
	}{
		{nil, 0}, {[]float32{}, 0}, {[]float32{negZero}, 0}, {[]float32{negZero, negZero}, 0}, {[]float32{1, -1}, 0}, {[]float32{tiny, -tiny, negZero}, 0}, {[]float32{tiny, tiny}, 2 * tiny},
		{[]float32{inf, 1}, inf}, {[]float32{inf, -inf}, nan}, {[]float32{-inf}, -inf}, {[]float32{otherNaN, 1}, nan}, {[]float32{1, nan}, nan},
		{[]float32{great, great, -great}, inf}, {[]float32{great, -great, great}, great}, {[]float32{1 << 24, 1, 1}, 1 << 24}, {[]float32{1, 1, 1 << 24}, 1<<24 + 2},
		{make([]float32, 60), 0}, {slices.Repeat([]float32{plainest}, 60), 60 * plainest},
	}
	for _, c := range cases {
		whole, code := impl.SumOf(c.list)
		expect(t, "SumOf", show(whole, code), show(c.sum, 0))
	}
	for _, a := range []float32{0, 1, inf, nan} {
		for _, count := range []int{61, 62, 1000} {
			whole, code := impl.SumOf(slices.Repeat([]float32{a}, count))
			expect(t, "SumOf", show(whole, code), show(0, impl.ErrLimit))
		}
	}
}

func TestHoursFor(t *testing.T) {
	p := picker(69)
	counts := map[int]int{}
	for _, c := range someHours(2000) {
		sums := wantSums(c)
		at := oneOf(&p, sums)
		for _, amount := range []float32{0, negZero, tiny, at, below(at), above(at), sums[60], above(sums[60]), plainest} {
			if !isSize(amount) {
				continue
			}
			hours, code := impl.HoursFor(c.stone, c.torque, c.feed, amount)
			want, wantCode := wantHours(c, amount)
			expect(t, "HoursFor "+show(c, amount), show(hours, code), show(want, wantCode))
			counts[want]++
		}
	}
	if len(counts) < 61 {
		t.Errorf("amounts are reached only behind these hours: %v", counts)
	}
}

func TestHoursForAtLimits(t *testing.T) {
	cases := []struct {
		stone        impl.Stone
		torque, feed float32
		amount       float32
		hours, code  int
	}{
		{exampleStone(), 6, 2, 0, 0, 0}, {exampleStone(), 6, 2, negZero, 0, 0}, {exampleStone(), 6, 2, tiny, 1, 0}, {exampleStone(), 6, 2, above(8), 1, 0}, {exampleStone(), 6, 2, above(above(8)), 2, 0},
		// A stone that stands still is enough for nothing.
		{exampleStone(), 3, 2, 0, 0, 0}, {exampleStone(), 3, 2, negZero, 0, 0}, {exampleStone(), 3, 2, tiny, 0, impl.ErrNotFound}, {exampleStone(), 3, 2, plainest, 0, impl.ErrNotFound},
		{stoneOf(0, 0, 0, 0), 0, 1024, 0, 0, 0}, {stoneOf(0, 0, 0, 0), 0, 1024, tiny, 0, impl.ErrNotFound}, {stoneOf(0, 0, 0, negZero), 0, 1024, 0, 0, 0},
		{stoneOf(0, 0, 0, 1), 0, 1024, plainest, 1, 0}, {stoneOf(0, 0, 0, 1), 0, 1023, plainest, 0, impl.ErrNotFound}, {stoneOf(0, 0, 0, 1), 0, 2, 3072, 2, 0}, {stoneOf(0, 0, 0, 1), 0, 2, above(3072), 3, 0},
	}
	for _, c := range cases {
		hours, code := impl.HoursFor(c.stone, c.torque, c.feed, c.amount)
		expect(t, "HoursFor "+show(c), show(hours, code), show(c.hours, c.code))
	}
	// The least grit stays as it is: each hour has the same flour.
	even, each := stoneOf(1, 0, 0, tiny), plainest*tiny
	for hours := range 61 {
		amount := float32(hours) * each
		got, code := impl.HoursFor(even, 1, 1024, amount)
		expect(t, "HoursFor", show(got, code), show(hours, 0))
		want, wantCode := hours+1, 0
		if hours == 60 {
			want, wantCode = 0, impl.ErrNotFound
		}
		got, code = impl.HoursFor(even, 1, 1024, above(amount))
		expect(t, "HoursFor", show(got, code), show(want, wantCode))
	}
}

func TestShareTorque(t *testing.T) {
	p := picker(70)
	stones := someStones(300)
	codes := map[int]int{}
	for range 2000 {
		list := make([]impl.Stone, p.below(10))
		if p.below(20) == 0 {
			list = make([]impl.Stone, 60)
		}
		feed := p.rate()
		for i := range list {
			list[i] = oneOf(&p, stones)
		}
		torque := min(wantAll(feed, list...)(p.rate()), plainest)
		shares, code := impl.ShareTorque(list, torque, feed)
		want, wantCode := wantShares(list, torque, feed, 40)
		expect(t, "ShareTorque", show(shares, code), show(want, wantCode))
		codes[wantCode]++
	}
	if codes[0] < 100 || codes[impl.ErrNotFound] < 100 {
		t.Errorf("ShareTorque has too few codes of a kind: %v", codes)
	}
}

func TestRoundingsOfShares(t *testing.T) {
	p := picker(71)
	type sharing struct {
		list         []impl.Stone
		torque, feed float32
	}
	var cases []sharing
	for range 2000 {
		c := sharing{feed: p.between(1.0/1024, 1)}
		for range 2 + p.below(5) {
			c.list = append(c.list, stoneOf(p.between(1e-6, 1), p.between(1e-6, 1), p.between(1e-6, 1), 1))
		}
		c.torque = wantAll(c.feed, c.list...)(p.between(1e-6, greatestRate))
		shares, code := impl.ShareTorque(c.list, c.torque, c.feed)
		want, wantCode := wantShares(c.list, c.torque, c.feed, 40)
		expect(t, "ShareTorque", show(shares, code), show(want, wantCode))
		cases = append(cases, c)
	}
	with := func(turn func(c sharing) (float32, int)) func(sharing) float32 {
		return func(c sharing) float32 {
			speed, _ := turn(c)
			return speed
		}
	}
	halved := func(times int) func(sharing) float32 {
		return with(func(c sharing) (float32, int) { return wantTurning(wantAll(c.feed, c.list...), c.torque, times) })
	}
	tellsApart(t, "39 halvings", cases, halved(40), halved(39))
	tellsApart(t, "41 halvings", cases, halved(40), halved(41))
	tellsApart(t, "stones from the last one on", cases, halved(40), with(func(c sharing) (float32, int) {
		back := slices.Clone(c.list)
		slices.Reverse(back)
		return wantTurning(wantAll(c.feed, back...), c.torque, 40)
	}))
	tellsApart(t, "one stone for all", cases, halved(40), with(func(c sharing) (float32, int) {
		var whole impl.Stone
		for _, s := range c.list {
			whole.Drag, whole.Rub, whole.Bite = sum(whole.Drag, s.Drag), sum(whole.Rub, s.Rub), sum(whole.Bite, s.Bite)
		}
		return wantTurning(wantAll(c.feed, whole), c.torque, 40)
	}))
}

func TestShareTorqueAtLimits(t *testing.T) {
	s, none := exampleStone(), stoneOf(negZero, negZero, negZero, negZero)
	cases := []struct {
		list         []impl.Stone
		torque, feed float32
		shares       []float32
		code         int
	}{
		{nil, 12, 2, nil, impl.ErrNotFound}, {[]impl.Stone{}, plainest, 0, nil, impl.ErrNotFound}, {nil, 0, 0, nil, impl.ErrNotFound},
		{[]impl.Stone{s}, 6, 2, []float32{6}, 0}, {[]impl.Stone{s, s}, 12, 2, []float32{6, 6}, 0}, {[]impl.Stone{s, s}, below(8), 2, nil, impl.ErrNotFound},
		{[]impl.Stone{s, s}, 8, 2, []float32{4, 4}, 0}, {[]impl.Stone{s, stoneOf(1, 0, 0, 0)}, 7, 2, []float32{6, 1}, 0}, {[]impl.Stone{s, stoneOf(1, 0, 0, 0)}, 4, 2, nil, impl.ErrNotFound},
		{[]impl.Stone{s, {}}, plainest, 2, []float32{516, 0}, 0}, {[]impl.Stone{none}, 0, 0, []float32{negZero}, 0}, {[]impl.Stone{none, none}, negZero, negZero, []float32{0, 0}, 0},
		{slices.Repeat([]impl.Stone{s}, 60), 240, 2, slices.Repeat([]float32{4}, 60), 0}, {slices.Repeat([]impl.Stone{s}, 60), below(240), 2, nil, impl.ErrNotFound},
		{slices.Repeat([]impl.Stone{stoneOf(1024, 1024, 1024, 1)}, 60), plainest, 1024, nil, impl.ErrNotFound},
		{slices.Repeat([]impl.Stone{stoneOf(tiny, 0, 0, 1)}, 60), 60 * tiny, 1024, slices.Repeat([]float32{tiny}, 60), 0},
		{slices.Repeat([]impl.Stone{stoneOf(tiny, 0, 0, 1)}, 60), 59 * tiny, 1024, nil, impl.ErrNotFound},
	}
	for i, c := range cases {
		shares, code := impl.ShareTorque(c.list, c.torque, c.feed)
		expect(t, "ShareTorque "+show(i), show(shares, code), show(c.shares, c.code))
	}
}

func TestBestFeed(t *testing.T) {
	p := picker(72)
	places := map[int]int{}
	for _, s := range someStones(2000) {
		feeds := make([]float32, 1+p.below(12))
		for i := range feeds {
			feeds[i] = p.rate()
		}
		torque := p.torqueFor(s, oneOf(&p, feeds))
		best, most, code := impl.BestFeed(s, torque, feeds)
		want, wantMost := wantBestFeed(s, torque, feeds)
		expect(t, "BestFeed "+show(s, torque, feeds), show(best, most, code), show(want, wantMost, 0))
		places[want]++
	}
	if len(places) < 12 {
		t.Errorf("the best feeds are only at %v", places)
	}
}

func TestBestFeedAtLimits(t *testing.T) {
	free, s := stoneOf(0, 0, 0, 1), exampleStone()
	cases := []struct {
		stone  impl.Stone
		torque float32
		feeds  []float32
		best   int
		most   float32
	}{
		{free, 0, []float32{0, 2, 4}, 2, 4096}, {free, 0, []float32{4, 2, 4}, 0, 4096}, {free, 0, []float32{2, 4, 4}, 1, 4096}, {free, 0, []float32{1024}, 0, plainest},
		{free, 0, []float32{0, negZero}, 0, 0}, {free, 0, []float32{negZero, 0}, 0, negZero}, {free, 0, []float32{negZero, tiny}, 1, 1024 * tiny},
		// Without any flour the first feed is the best one.
		{s, 1, []float32{2, 0, 4}, 0, 0}, {s, 1, []float32{negZero}, 0, 0}, {s, 3, []float32{4, 2, 0}, 0, 0}, {s, 3, []float32{0, negZero, 0.5}, 2, above(above(0.5))},
		{free, 0, append(make([]float32, 59), tiny), 59, 1024 * tiny}, {free, 0, make([]float32, 60), 0, 0},
	}
	for _, c := range cases {
		best, most, code := impl.BestFeed(c.stone, c.torque, c.feeds)
		want, wantMost := wantBestFeed(c.stone, c.torque, c.feeds)
		expect(t, "BestFeed "+show(c), show(best, most, code), show(c.best, c.most, 0))
		expect(t, "wanted "+show(c), show(want, wantMost), show(c.best, c.most))
	}
}

func TestErrorsOfBadStones(t *testing.T) {
	for _, s := range badStones() {
		// ErrInvalid is found before what the other errors stand for.
		for _, x := range []float32{1, 0, -1, nan, above(plainest)} {
			expectInvalidStone(t, s, x)
		}
		expect(t, "text", impl.StoneText(s), "")
	}
	for _, count := range []int{1, 2, 60, 61, 1000} {
		for _, at := range []int{0, count / 2, count - 1} {
			for _, bad := range badStones() {
				list := slices.Repeat([]impl.Stone{exampleStone()}, count)
				list[at] = bad
				shares, one := impl.ShareTorque(list, 1000, 2)
				none, two := impl.ShareTorque(list, nan, -1)
				expect(t, "a bad stone", show(len(shares), one, len(none), two), show(0, 1, 0, 1))
			}
		}
	}
}

func expectInvalidStone(t *testing.T, s impl.Stone, x float32) {
	t.Helper()
	load, c1 := impl.LoadOf(s, x, x)
	flour, c2 := impl.FlourOf(s, x, x)
	feed, c3 := impl.FeedFor(s, x, x)
	speed, c4 := impl.SteadySpeed(s, x, x, 8)
	fast, c5 := impl.SteadySpeed(s, x, x, 61)
	hours, c6 := impl.HoursFor(s, x, x, x)
	expect(t, "invalid", show(load, c1, flour, c2, feed, c3, speed, c4, fast, c5, hours, c6), show(0, 1, 0, 1, 0, 1, 0, 1, 0, 1, 0, 1))
	dull, c1 := impl.Dulled(s, x)
	sharp, c2 := impl.Dressed(s)
	next, ground, c3 := impl.GrindHour(s, x, x)
	expect(t, "invalid", show(dull, c1, sharp, c2, next, ground, c3), show(impl.Stone{}, 1, impl.Stone{}, 1, impl.Stone{}, 0, 1))
	for _, count := range []int{0, 1, 60, 61} {
		list := slices.Repeat([]float32{x}, count)
		last, day, c1 := impl.GrindDay(s, list, x)
		other, dressed, times, c2 := impl.DressedDay(s, list, x, x)
		expect(t, "invalid", show(last, len(day), c1, other, len(dressed), times, c2), show(impl.Stone{}, 0, 1, impl.Stone{}, 0, 0, 1))
		best, most, c3 := impl.BestFeed(s, x, list)
		expect(t, "invalid", show(best, most, c3), show(0, 0, 1))
	}
}

func TestRangesOfStones(t *testing.T) {
	s := exampleStone()
	for _, x := range notRates {
		load, c1 := impl.LoadOf(s, x, 2)
		fed, c2 := impl.LoadOf(s, 4, x)
		flour, c3 := impl.FlourOf(s, x, 2)
		ground, c4 := impl.FlourOf(s, 4, x)
		expect(t, "no rate", show(load, c1, fed, c2, flour, c3, ground, c4), show(0, 2, 0, 2, 0, 2, 0, 2))
		feed, c1 := impl.FeedFor(s, 6, x)
		// ErrRange is found before ErrNotFound.
		none, c2 := impl.FeedFor(s, 1, x)
		speed, c3 := impl.SteadySpeed(s, 6, x, 8)
		still, c4 := impl.SteadySpeed(s, 1, x, 8)
		hours, c5 := impl.HoursFor(s, 6, x, 9)
		quick, c6 := impl.HoursFor(s, 6, x, 0)
		expect(t, "no rate", show(feed, c1, none, c2, speed, c3, still, c4, hours, c5, quick, c6), show(0, 2, 0, 2, 0, 2, 0, 2, 0, 2, 0, 2))
	}
	for _, x := range notSizes {
		feed, c1 := impl.FeedFor(s, x, 4)
		speed, c2 := impl.SteadySpeed(s, x, 2, 8)
		dull, c3 := impl.Dulled(s, x)
		next, flour, c4 := impl.GrindHour(s, x, 2)
		expect(t, "no size", show(feed, c1, speed, c2, dull, c3, next, flour, c4), show(0, 2, 0, 2, impl.Stone{}, 2, impl.Stone{}, 0, 2))
		hours, c1 := impl.HoursFor(s, x, 2, 9)
		quick, c2 := impl.HoursFor(s, x, 2, 0)
		other, c3 := impl.HoursFor(s, 6, 2, x)
		still, c4 := impl.HoursFor(s, 1, 2, x)
		expect(t, "no size", show(hours, c1, quick, c2, other, c3, still, c4), show(0, 2, 0, 2, 0, 2, 0, 2))
	}
	for _, x := range []int64{-1, 61, 62, 256 + 8, 1<<32 + 8, math.MinInt64, math.MaxInt64} {
		speed, one := impl.SteadySpeed(s, 6, 2, x)
		still, two := impl.SteadySpeed(s, 1, 2, x)
		expect(t, "halvings", show(speed, one, still, two), show(0, 2, 0, 2))
	}
}

func TestReachedRangesOfStones(t *testing.T) {
	s := impl.Stone{}
	for _, x := range []float32{0, negZero, tiny, greatestRate} {
		for _, y := range []float32{0, negZero, tiny, greatestRate, plainest} {
			_, c1 := impl.LoadOf(s, x, min(y, greatestRate))
			_, c2 := impl.FlourOf(s, x, min(y, greatestRate))
			_, c3 := impl.FeedFor(s, y, x)
			_, c4 := impl.SteadySpeed(s, y, x, 0)
			_, c5 := impl.SteadySpeed(s, y, x, 60)
			_, c6 := impl.Dulled(s, y)
			_, _, c7 := impl.GrindHour(s, y, x)
			_, _, c8 := impl.GrindDay(s, []float32{y}, x)
			_, _, _, c9 := impl.DressedDay(s, []float32{y}, x, min(x, 1))
			_, c10 := impl.ShareTorque([]impl.Stone{s}, y, x)
			_, _, c11 := impl.BestFeed(s, y, []float32{x})
			_, c12 := impl.HoursFor(withGrit(s, 1), y, greatestRate, y)
			expect(t, "codes", show(c1, c2, c3, c4, c5, c6, c7, c8, c9, c10, c11, c12), show(0, 0, 0, 0, 0, 0, 0, 0, 0, 0, 0, 0))
		}
	}
}

func TestErrorsOfDays(t *testing.T) {
	good := func(count int) []float32 { return slices.Repeat([]float32{6}, count) }
	for _, count := range []int{0, 1, 60, 61, 1000} {
		for _, x := range notRates {
			expectDays(t, good(count), x, 0.5, impl.ErrRange)
		}
		for _, at := range []int{0, 1, 59, 60, count - 1} {
			for _, x := range notSizes {
				if at < 0 || at >= count {
					continue
				}
				torques := good(count)
				torques[at] = x
				expectDays(t, torques, 2, 0.5, impl.ErrRange)
			}
		}
		for _, x := range noParts {
			last, list, times, code := impl.DressedDay(exampleStone(), good(count), 2, x)
			expect(t, "no part", show(last, len(list), times, code), show(impl.Stone{}, 0, 0, impl.ErrRange))
		}
	}
	for _, count := range []int{61, 62, 1000} {
		expectDays(t, good(count), 2, 0.5, impl.ErrLimit)
		expectDays(t, make([]float32, count), 0, 0, impl.ErrLimit)
	}
}

// expectDays expects the same error of both kinds of days.
func expectDays(t *testing.T, torques []float32, feed, least float32, want int) {
	t.Helper()
	last, list, one := impl.GrindDay(exampleStone(), torques, feed)
	other, dressed, times, two := impl.DressedDay(exampleStone(), torques, feed, least)
	expect(t, "errors of days", show(last, len(list), one, other, len(dressed), times, two), show(impl.Stone{}, 0, want, impl.Stone{}, 0, 0, want))
}

func TestErrorsOfShareTorque(t *testing.T) {
	for _, count := range []int{0, 1, 60, 61, 1000} {
		list := slices.Repeat([]impl.Stone{exampleStone()}, count)
		for _, x := range notSizes {
			shares, code := impl.ShareTorque(list, x, 2)
			expect(t, "no torque", show(len(shares), code), show(0, impl.ErrRange))
		}
		for _, x := range notRates {
			shares, code := impl.ShareTorque(list, 0, x)
			expect(t, "no feed", show(len(shares), code), show(0, impl.ErrRange))
		}
		if count > 60 {
			// ErrLimit is found before ErrNotFound.
			for _, torque := range []float32{0, plainest} {
				shares, code := impl.ShareTorque(list, torque, 2)
				expect(t, "too many stones", show(len(shares), code), show(0, impl.ErrLimit))
			}
		}
	}
}

func TestErrorsOfBestFeed(t *testing.T) {
	for _, count := range []int{0, 1, 60, 61, 1000} {
		feeds := slices.Repeat([]float32{2}, count)
		for _, x := range notSizes {
			expectNoFeed(t, x, feeds, impl.ErrRange)
		}
		for _, at := range []int{0, 1, 59, 60, count - 1} {
			for _, x := range notRates {
				if at < 0 || at >= count {
					continue
				}
				list := slices.Clone(feeds)
				list[at] = x
				expectNoFeed(t, 6, list, impl.ErrRange)
			}
		}
		if count > 60 {
			expectNoFeed(t, 6, feeds, impl.ErrLimit)
		}
	}
	expectNoFeed(t, 6, nil, impl.ErrNotFound)
	expectNoFeed(t, 0, []float32{}, impl.ErrNotFound)
}

func expectNoFeed(t *testing.T, torque float32, feeds []float32, want int) {
	t.Helper()
	best, most, code := impl.BestFeed(exampleStone(), torque, feeds)
	expect(t, "errors of BestFeed", show(best, most, code), show(0, 0, want))
}

func TestStoneTexts(t *testing.T) {
	cases := []struct {
		stone impl.Stone
		text  string
	}{
		{exampleStone(), "40000000/3f000000/3f800000/3f800000"}, {impl.Stone{}, "00000000/00000000/00000000/00000000"},
		{stoneOf(negZero, negZero, negZero, negZero), "80000000/80000000/80000000/80000000"}, {stoneOf(1024, 1024, 1024, 1), "44800000/44800000/44800000/3f800000"},
		{stoneOf(tiny, 2*tiny, 3*tiny, 4*tiny), "00000001/00000002/00000003/00000004"}, {stoneOf(1, 2, 4, 0.5), "3f800000/40000000/40800000/3f000000"},
	}
	for _, c := range cases {
		expect(t, "StoneText", impl.StoneText(c.stone), c.text)
		read, code := impl.ReadStone(c.text)
		expect(t, "ReadStone", show(read, code), show(c.stone, 0))
	}
	for _, s := range someStones(1000) {
		read, code := impl.ReadStone(impl.StoneText(s))
		if code != 0 || !impl.SameStone(read, s) {
			t.Errorf("%+v is read as %+v, %v", s, read, code)
		}
	}
}

func TestTextsOfNoStone(t *testing.T) {
	texts := []string{
		"", "/", "//", "///", "////", "x", "40000000", "40000000/3f000000/3f800000", "40000000/3f000000/3f800000/", "/40000000/3f000000/3f800000",
		"40000000/3f000000/3f800000/3f800000/", "/40000000/3f000000/3f800000/3f800000", "40000000/3f000000/3f800000/3f800000/3f800000",
		"40000000//3f000000/3f800000/3f800000", "40000000/3f000000//3f800000", "40000000:3f000000:3f800000:3f800000", "40000000 3f000000 3f800000 3f800000",
		" 40000000/3f000000/3f800000/3f800000", "40000000/3f000000/3f800000/3f800000 ", "40000000/ 3f000000/3f800000/3f800000", "40000000/3f000000/3f800000/3f800000\n",
		"40000000/3F000000/3f800000/3f800000", "4000000/3f000000/3f800000/3f800000", "040000000/3f000000/3f800000/3f800000", "4000000g/3f000000/3f800000/3f800000",
		"+4000000/3f000000/3f800000/3f800000", "2/0.5/1/1", "44800001/3f000000/3f800000/3f800000", "40000000/44800001/3f800000/3f800000", "40000000/3f000000/44800001/3f800000",
		"40000000/3f000000/3f800000/3f800001", "80000001/3f000000/3f800000/3f800000", "40000000/80000001/3f800000/3f800000", "40000000/3f000000/80000001/3f800000",
		"40000000/3f000000/3f800000/80000001", "7fc00000/3f000000/3f800000/3f800000", "40000000/7fc00000/3f800000/3f800000", "40000000/3f000000/7fc00000/3f800000",
		"40000000/3f000000/3f800000/7fc00000", "40000000/3f000000/3f800000/ffc00000", "7f800000/3f000000/3f800000/3f800000", "40000000/3f000000/3f800000/ff800000",
		"\xff0000000/3f000000/3f800000/3f800000", "40000000/3f000000/3f800000/3f80000\xff", "40000000/3f000000/3f800000/3f800000\x00",
		strings.Repeat("/", 1000000), strings.Repeat("4", 1000000), strings.Repeat("40000000/", 111111), "40000000/3f000000/3f800000/" + strings.Repeat("0", 999000) + "3f800000",
	}
	for _, text := range texts {
		read, code := impl.ReadStone(text)
		if read != (impl.Stone{}) || code != impl.ErrSyntax {
			t.Errorf("ReadStone of %.60q: got %+v %v", text, read, code)
		}
	}
}
