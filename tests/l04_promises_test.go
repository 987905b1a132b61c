package tests

import (
	"math"
	"slices"
	"strings"
	"testing"

	"loop.example/g01344/impl"
)

// stoneArguments has one of each kind that a function of chapter 4 takes.
type stoneArguments struct {
	a, b     impl.Stone
	x, y, z  float32
	halvings int64
	numbers  []float32
	list     []impl.Stone
	text     string
}

// stoneCalls tells for each function of chapter 4 what it returns.
func stoneCalls() map[string]func(stoneArguments) string {
	return map[string]func(stoneArguments) string{
		"IsRate":      func(g stoneArguments) string { return show(impl.IsRate(g.x)) },
		"ValidStone":  func(g stoneArguments) string { return show(impl.ValidStone(g.a)) },
		"SameStone":   func(g stoneArguments) string { return show(impl.SameStone(g.a, g.b)) },
		"LoadOf":      func(g stoneArguments) string { a, c := impl.LoadOf(g.a, g.x, g.y); return show(a, c) },
		"FlourOf":     func(g stoneArguments) string { a, c := impl.FlourOf(g.a, g.x, g.y); return show(a, c) },
		"FeedFor":     func(g stoneArguments) string { a, c := impl.FeedFor(g.a, g.x, g.y); return show(a, c) },
		"SteadySpeed": func(g stoneArguments) string { a, c := impl.SteadySpeed(g.a, g.x, g.y, g.halvings); return show(a, c) },
		"Dulled":      func(g stoneArguments) string { a, c := impl.Dulled(g.a, g.x); return show(a, c) },
		"Dressed":     func(g stoneArguments) string { a, c := impl.Dressed(g.a); return show(a, c) },
		"GrindHour":   func(g stoneArguments) string { a, b, c := impl.GrindHour(g.a, g.x, g.y); return show(a, b, c) },
		"GrindDay":    func(g stoneArguments) string { a, b, c := impl.GrindDay(g.a, g.numbers, g.y); return show(a, b, c) },
		"DressedDay": func(g stoneArguments) string {
			a, b, n, c := impl.DressedDay(g.a, g.numbers, g.y, g.z)
			return show(a, b, n, c)
		},
		"SumOf":       func(g stoneArguments) string { a, c := impl.SumOf(g.numbers); return show(a, c) },
		"HoursFor":    func(g stoneArguments) string { a, c := impl.HoursFor(g.a, g.x, g.y, g.z); return show(a, c) },
		"ShareTorque": func(g stoneArguments) string { a, c := impl.ShareTorque(g.list, g.x, g.y); return show(a, c) },
		"BestFeed":    func(g stoneArguments) string { a, b, c := impl.BestFeed(g.a, g.x, g.numbers); return show(a, b, c) },
		"StoneText":   func(g stoneArguments) string { return show(impl.StoneText(g.a)) },
		"ReadStone":   func(g stoneArguments) string { a, c := impl.ReadStone(g.text); return show(a, c) },
	}
}

func pickStoneArguments(p *picker, good, bad []impl.Stone) stoneArguments {
	rates := []float32{0, negZero, tiny, 0.5, 1, 2, 6, 16, 512, greatestRate}
	torques := []float32{0, negZero, tiny, 1, 6, 8, 100, 2000, 70000, plainest}
	badNumbers := append([]float32{above(plainest)}, notRates...)
	texts := []string{"", "40000000/3f000000/3f800000/3f800000", "80000000/44800000/00000001/00000000", "40000000/3f000000/3f800000/", "40000000/3f000000/3f800000/7fc00000", "\xff"}
	g := stoneArguments{
		a: mostly(p, good, bad), b: mostly(p, good, bad),
		x: mostly(p, torques, badNumbers), y: mostly(p, rates, badNumbers), z: mostly(p, []float32{0, negZero, tiny, 0.5, 1}, badNumbers),
		halvings: mostly(p, []int64{0, 1, 8, 40, 60}, []int64{-1, 61, math.MinInt64, math.MaxInt64}),
		text:     oneOf(p, texts),
	}
	for range p.below(66) {
		g.numbers = append(g.numbers, oneOf(p, rates))
		g.list = append(g.list, oneOf(p, good))
	}
	if len(g.numbers) > 0 && p.below(5) == 0 {
		g.numbers[p.below(len(g.numbers))] = oneOf(p, badNumbers)
		g.list[p.below(len(g.list))] = oneOf(p, bad)
	}
	return g
}

// Promise 1: every function returns, modifies no argument, and returns equal
// results for equal arguments.
func TestPromise1OfStones(t *testing.T) {
	p := picker(73)
	calls := stoneCalls()
	good, bad := someStones(60), badStones()
	for range 2000 {
		first := pickStoneArguments(&p, good, bad)
		second := first
		second.numbers = roomy(first.numbers, 77)
		second.list = roomy(first.list, stoneOf(7, 7, 7, 0.75))
		numbers, list := all(second.numbers), all(second.list)
		expectEqual(t, calls, first, second)
		expect(t, "numbers", all(second.numbers), numbers)
		expect(t, "stones", all(second.list), list)
	}
}

// Promise 1, also where several calls are made at once.
func TestPromise1OfStonesAtOnce(t *testing.T) {
	p := picker(74)
	good, bad := someStones(20), badStones()
	for range 50 {
		expectAtOnce(t, stoneCalls(), pickStoneArguments(&p, good, bad))
	}
}

func TestPromise1OfManyStones(t *testing.T) {
	numbers, list := slices.Repeat([]float32{2}, 1000000), slices.Repeat([]impl.Stone{exampleStone()}, 1000000)
	g := stoneArguments{a: exampleStone(), b: exampleStone(), x: 6, y: 2, z: 0.5, halvings: 60, numbers: numbers, list: list, text: strings.Repeat("40000000/", 111111)}
	for name, call := range stoneCalls() {
		once := call(g)
		expect(t, name, call(g), once)
	}
	expectMany(t, g, impl.ErrLimit, impl.ErrLimit)
	numbers[999999] = nan
	expectMany(t, g, impl.ErrRange, impl.ErrLimit)
	g.y = nan
	expectMany(t, g, impl.ErrRange, impl.ErrRange)
	g.a.Grit, list[999999].Grit = nan, nan
	expectMany(t, g, impl.ErrInvalid, impl.ErrInvalid)
}

// expectMany expects errors of functions that receive numbers, and stones.
func expectMany(t *testing.T, g stoneArguments, ofNumbers, ofStones int) {
	t.Helper()
	_, _, one := impl.GrindDay(g.a, g.numbers, g.y)
	_, _, _, two := impl.DressedDay(g.a, g.numbers, g.y, g.z)
	_, _, three := impl.BestFeed(g.a, g.x, g.numbers)
	_, four := impl.SumOf(g.numbers)
	_, five := impl.ShareTorque(g.list, g.x, g.y)
	expect(t, "many", show(one, two, three, four, five), show(ofNumbers, ofNumbers, ofNumbers, impl.ErrLimit, ofStones))
}

// Promise 1 and the convention of purity: results share no memory, neither
// with arguments nor with each other.
func TestFlourIsNewMemory(t *testing.T) {
	s := exampleStone()
	torques := roomy([]float32{6, 3, 8}, 77)
	list := roomy([]impl.Stone{s, stoneOf(1, 2, 1, 1)}, s)
	results := func() [][]float32 {
		_, flour, one := impl.GrindDay(s, torques, 2)
		_, dressed, _, two := impl.DressedDay(s, torques, 2, 1)
		shares, three := impl.ShareTorque(list, 100, 2)
		expect(t, "codes", show(one, two, three), show(0, 0, 0))
		return [][]float32{flour, dressed, shares}
	}
	first, second := results(), results()
	wanted, arguments := show(first), all(torques)+all(list)
	for _, result := range first {
		clear(result[:cap(result)])
	}
	expect(t, "results of the same arguments", show(second), wanted)
	expect(t, "arguments of results that are written over", all(torques)+all(list), arguments)
	clear(torques[:cap(torques)])
	clear(list[:cap(list)])
	expect(t, "results whose arguments are written over", show(second), wanted)
}

// Promise 8: a steady speed has no greater load than the torque.
func TestPromise8(t *testing.T) {
	p := picker(75)
	turn, limited := 0, 0
	for _, c := range someHours(20000) {
		halvings := oneOf(&p, []int64{0, 1, 8, 24, 40, 60, int64(p.below(61))})
		speed, code := impl.SteadySpeed(c.stone, c.torque, c.feed, halvings)
		idle, one := impl.LoadOf(c.stone, 0, c.feed)
		if code != 0 {
			// A stone stands still only where its load is too great at once.
			expect(t, "a stone that stands still "+show(c), show(speed, code, one, idle > c.torque), show(0, impl.ErrNotFound, 0, true))
			continue
		}
		load, two := impl.LoadOf(c.stone, speed, c.feed)
		if one != 0 || two != 0 || !impl.IsRate(speed) || !(idle <= c.torque) || !(load <= c.torque) {
			t.Errorf("%+v turns at %v after %v halvings, with the load %v", c, speed, halvings, load)
		}
		turn++
		limited += expectNoFaster(t, c, speed, halvings)
	}
	if turn < 4000 || limited < 2000 {
		t.Errorf("only %v stones turn, and only %v at less than 1024", turn, limited)
	}
}

// expectNoFaster expects that a steady speed is as great as it can be, up to
// the part that the halvings leave, and returns 1 if the torque limits it.
func expectNoFaster(t *testing.T, c hourCase, speed float32, halvings int64) int {
	t.Helper()
	left := float32(math.Ldexp(1024, -int(halvings)))
	faster := max(sum(speed, left), above(speed))
	if faster >= greatestRate {
		return 0
	}
	load, code := impl.LoadOf(c.stone, faster, c.feed)
	if code != 0 || !(load > c.torque) {
		t.Errorf("%+v turns at %v after %v halvings, but could turn at %v", c, speed, halvings, faster)
	}
	return 1
}

// Promise 8 where limits are reached: the torque is the load at once, or nearly.
func TestPromise8AtLimits(t *testing.T) {
	p := picker(76)
	for _, s := range someStones(3000) {
		for _, feed := range []float32{0, negZero, tiny, greatestRate, p.rate()} {
			idle := wantLoad(s, 0, feed)
			for _, torque := range []float32{idle, above(idle), below(idle), 0, negZero, plainest} {
				if !isSize(torque) {
					continue
				}
				for _, halvings := range []int64{0, 1, 60} {
					speed, code := impl.SteadySpeed(s, torque, feed, halvings)
					load, _ := impl.LoadOf(s, speed, feed)
					if code == 0 != (idle <= torque) || code == 0 && !(load <= torque) {
						t.Errorf("%+v, %v, %v: the speed %v (%v) after %v halvings has the load %v", s, torque, feed, speed, code, halvings, load)
					}
				}
			}
		}
	}
}

// Promise 8 for stones that share a torque: their loads are no greater in all.
func TestPromise8OfShares(t *testing.T) {
	p := picker(77)
	stones := someStones(300)
	shared := 0
	for range 3000 {
		list := make([]impl.Stone, 1+p.below(60))
		for i := range list {
			list[i] = oneOf(&p, stones)
			if p.below(3) > 0 {
				list[i] = stoneOf(p.between(1e-6, 16), p.between(1e-6, 16), p.between(1e-6, 16), 1)
			}
		}
		feed := p.between(1e-6, greatestRate)
		torque := min(wantAll(feed, list...)(p.rate()), plainest)
		shares, one := impl.ShareTorque(list, torque, feed)
		if one != 0 {
			idle := wantAll(feed, list...)(0)
			expect(t, "stones that stand still", show(len(shares), one, idle > torque), show(0, impl.ErrNotFound, true))
			continue
		}
		whole, two := impl.SumOf(shares)
		if two != 0 || len(shares) != len(list) || !(whole <= torque) {
			t.Errorf("%v stones share %v: they have %v in all", len(list), torque, whole)
		}
		shared++
	}
	if shared < 500 {
		t.Errorf("a torque is shared only %v times", shared)
	}
}

// A stone that shares with no other one has the load of its steady speed.
func TestPromise8OfOneShare(t *testing.T) {
	for _, c := range someHours(5000) {
		speed, one := impl.SteadySpeed(c.stone, c.torque, c.feed, 40)
		shares, two := impl.ShareTorque([]impl.Stone{c.stone}, c.torque, c.feed)
		want := []float32{}
		if one == 0 {
			load, _ := impl.LoadOf(c.stone, speed, c.feed)
			want = append(want, load)
		}
		expect(t, "one share "+show(c), show(shares, two), show(want, one))
	}
}

// Promise 8 is kept with a feed that FeedFor allows, nearly: its load is the
// torque, or less where there could not be more feed.
func TestFeedsThatAreAllowed(t *testing.T) {
	p := picker(78)
	allowed := 0
	for _, s := range someStones(10000) {
		speed := p.rate()
		torque := p.torqueFor(s, p.rate())
		feed, code := impl.FeedFor(s, torque, speed)
		if code != 0 {
			continue
		}
		load, code := impl.LoadOf(s, speed, feed)
		near := 1e-6*float64(torque) + 2048*float64(tiny)
		if code != 0 || float64(load) > float64(torque)+near || feed < greatestRate && float64(load) < float64(torque)-near {
			t.Errorf("%+v at %v: the torque %v allows the feed %v, with the load %v", s, speed, torque, feed, load)
		}
		allowed++
	}
	if allowed < 2000 {
		t.Errorf("only %v feeds are allowed", allowed)
	}
}

// Stones get duller while they grind, and only their grit changes.
func TestStonesGetDuller(t *testing.T) {
	for _, c := range someGrindings(20000) {
		dull, one := impl.Dulled(c.stone, c.flour)
		more, two := impl.Dulled(c.stone, min(2*c.flour, plainest))
		if one != 0 || two != 0 || !impl.ValidStone(dull) || !(dull.Grit <= c.stone.Grit) || !(more.Grit <= dull.Grit) || math.Signbit(float64(dull.Grit)) {
			t.Errorf("%+v gets %+v, and %+v by twice as much", c, dull, more)
		}
		expect(t, "what stays", show(withGrit(dull, 1)), show(withGrit(c.stone, 1)))
		sharp, code := impl.Dressed(dull)
		expect(t, "Dressed", show(sharp, code), show(withGrit(c.stone, 1), 0))
	}
	for _, c := range someHours(5000) {
		next, flour, code := impl.GrindHour(c.stone, c.torque, c.feed)
		if code != 0 || !impl.ValidStone(next) || !isSize(flour) || !(next.Grit <= c.stone.Grit) {
			t.Errorf("%+v gets %+v behind %v (%v)", c, next, flour, code)
		}
	}
}

// Promise 9: an hour is made of its steady speed, flour and dulling.
func TestPromise9OfHours(t *testing.T) {
	for _, c := range someHours(10000) {
		next, flour, code := impl.GrindHour(c.stone, c.torque, c.feed)
		speed, standing := impl.SteadySpeed(c.stone, c.torque, c.feed, 40)
		if standing != 0 {
			expect(t, "an hour of a stone that stands still "+show(c), show(next, flour, code, standing), show(c.stone, 0, 0, impl.ErrNotFound))
			continue
		}
		ground, one := impl.FlourOf(c.stone, speed, c.feed)
		dull, two := impl.Dulled(c.stone, ground)
		expect(t, "an hour "+show(c), show(next, flour, code), show(dull, ground, 0))
		expect(t, "codes", show(one, two), show(0, 0))
	}
}

// hoursOf makes a day of single hours, in some of which the stone is dressed.
func hoursOf(t *testing.T, s impl.Stone, torques []float32, feed, least float32) (impl.Stone, []float32, int) {
	t.Helper()
	list, times := []float32{}, 0
	for _, torque := range torques {
		var flour float32
		var code int64
		if s.Grit < least {
			s, code = impl.Dressed(s)
			times++
		} else {
			s, flour, code = impl.GrindHour(s, torque, feed)
		}
		if code != 0 {
			t.Errorf("an hour of %+v with %v and %v: %v", s, torque, feed, code)
		}
		list = append(list, flour)
	}
	return s, list, times
}

// Promise 9: a day is made of its hours.
func TestPromise9(t *testing.T) {
	p := picker(79)
	for _, s := range someStones(1500) {
		feed, least := p.rate(), oneOf(&p, []float32{0, negZero, tiny, 0.5, 1, s.Grit, p.loss()})
		torques := p.torquesFor(s, feed, oneOf(&p, []int{0, 1, 59, 60, p.below(61)}))
		last, list, code := impl.GrindDay(s, torques, feed)
		want, wantList, none := hoursOf(t, s, torques, feed, 0)
		expect(t, "GrindDay", show(last, list, none, code), show(want, wantList, 0, 0))
		last, list, times, code := impl.DressedDay(s, torques, feed, least)
		want, wantList, wantTimes := hoursOf(t, s, torques, feed, least)
		expect(t, "DressedDay", show(last, list, times, code), show(want, wantList, wantTimes, 0))
		expectParts(t, s, torques, feed, least)
	}
}

// expectParts expects of each two parts of a day that they make the whole one.
func expectParts(t *testing.T, s impl.Stone, torques []float32, feed, least float32) {
	t.Helper()
	whole, list, _ := impl.GrindDay(s, torques, feed)
	dressed, dressedList, times, _ := impl.DressedDay(s, torques, feed, least)
	for at := 0; at <= len(torques); at += 7 {
		noon, early, one := impl.GrindDay(s, torques[:at], feed)
		night, late, two := impl.GrindDay(noon, torques[at:], feed)
		expect(t, "parts of a day", show(night, append(early, late...), one, two), show(whole, list, 0, 0))
		noon, early, times1, one := impl.DressedDay(s, torques[:at], feed, least)
		night, late, times2, two := impl.DressedDay(noon, torques[at:], feed, least)
		expect(t, "parts of a day with dressing", show(night, append(early, late...), times1+times2, one, two), show(dressed, dressedList, times, 0, 0))
	}
}

// Promise 9 without any dressing: both kinds of days are the same.
func TestPromise9WithoutDressing(t *testing.T) {
	p := picker(80)
	for _, s := range someStones(1000) {
		feed := p.rate()
		torques := p.torquesFor(s, feed, p.below(61))
		last, list, _ := impl.GrindDay(s, torques, feed)
		for _, least := range []float32{0, negZero} {
			other, dressed, times, code := impl.DressedDay(s, torques, feed, least)
			expect(t, "never dressed", show(other, dressed, times, code), show(last, list, 0, 0))
		}
	}
}

// Promise 9: HoursFor tells how many hours of a day with one torque it takes.
func TestPromise9OfAmounts(t *testing.T) {
	p := picker(81)
	reached := 0
	for _, c := range someHours(1000) {
		_, list, _ := impl.GrindDay(c.stone, slices.Repeat([]float32{c.torque}, 60), c.feed)
		all, _ := impl.SumOf(list)
		for _, amount := range []float32{0, all, below(all), above(all), product(all, p.between(0.001, 1))} {
			if !isSize(amount) {
				continue
			}
			hours, code := impl.HoursFor(c.stone, c.torque, c.feed, amount)
			if code != 0 {
				expect(t, "an amount that is not reached", show(hours, code, all < amount), show(0, impl.ErrNotFound, true))
				continue
			}
			behind, _ := impl.SumOf(list[:hours])
			if !(behind >= amount) {
				t.Errorf("%+v: %v behind %v hours are less than %v", c, behind, hours, amount)
			}
			if hours > 0 {
				before, _ := impl.SumOf(list[:hours-1])
				if !(before < amount) {
					t.Errorf("%+v: %v behind one hour less than %v are enough for %v", c, before, hours, amount)
				}
				reached++
			}
		}
	}
	if reached < 500 {
		t.Errorf("only %v amounts take hours", reached)
	}
}

// Promise 9: the best feed is that of the best one of all hours.
func TestPromise9OfFeeds(t *testing.T) {
	p := picker(82)
	for _, s := range someStones(1000) {
		feeds := make([]float32, 1+p.below(60))
		for i := range feeds {
			feeds[i] = p.rate()
		}
		torque := p.torqueFor(s, oneOf(&p, feeds))
		best, most, code := impl.BestFeed(s, torque, feeds)
		if code != 0 || best < 0 || best >= int64(len(feeds)) {
			t.Fatalf("the best feed of %v is at %v (%v)", len(feeds), best, code)
		}
		for i, feed := range feeds {
			_, flour, _ := impl.GrindHour(s, torque, feed)
			if flour > most || flour == most && i < int(best) || i == int(best) && !sameNumbers(flour, most) {
				t.Errorf("%+v grinds %v with the feed %v, but %v with the best one at %v", s, flour, i, most, best)
			}
		}
	}
}

// Promise 9 of invalid arguments: a day has the error of its hours.
func TestPromise9OfErrors(t *testing.T) {
	good := exampleStone()
	for _, s := range append(badStones(), good) {
		for _, torque := range append([]float32{6}, notSizes...) {
			for _, feed := range append([]float32{2}, notRates...) {
				_, _, code := impl.GrindHour(s, torque, feed)
				last, list, dayCode := impl.GrindDay(s, []float32{6, torque}, feed)
				other, dressed, times, dressedCode := impl.DressedDay(s, []float32{torque, 6}, feed, 0.5)
				expect(t, "the error of a day", show(dayCode, dressedCode), show(code, code))
				if code != 0 {
					expect(t, "nothing beside an error", show(last, len(list), other, len(dressed), times), show(impl.Stone{}, 0, impl.Stone{}, 0, 0))
				}
			}
		}
	}
}
