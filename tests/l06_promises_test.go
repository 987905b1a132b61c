package tests

import (
	"math"
	"slices"
	"strings"
	"testing"

	"loop.example/g01344/impl"
)

// wearArguments has one of each kind that a function of chapter 6 takes.
type wearArguments struct {
	train        impl.Train
	a, b         impl.Tooth
	teeth        []impl.Tooth
	x, y         float32
	plays, highs []float32
	torques      []float32
	changes      []impl.Change
	text         string
}

// wearCalls tells for each function of chapter 6 what it returns.
func wearCalls() map[string]func(wearArguments) string {
	return map[string]func(wearArguments) string{
		"ValidTooth": func(g wearArguments) string { return show(impl.ValidTooth(g.a)) },
		"SameTooth":  func(g wearArguments) string { return show(impl.SameTooth(g.a, g.b)) },
		"WearOf":     func(g wearArguments) string { a, c := impl.WearOf(g.a); return show(a, c) },
		"WornBy":     func(g wearArguments) string { a, c := impl.WornBy(g.a, g.x); return show(a, c) },
		"WeeksUntil": func(g wearArguments) string { a, c := impl.WeeksUntil(g.a, g.x, g.y); return show(a, c) },
		"TurnTooth":  func(g wearArguments) string { a, c := impl.TurnTooth(g.a); return show(a, c) },
		"NewTooth":   func(g wearArguments) string { a, c := impl.NewTooth(g.a); return show(a, c) },
		"PlayAt":     func(g wearArguments) string { a, c := impl.PlayAt(g.train, g.plays); return show(a, c) },
		"PlaysAlong": func(g wearArguments) string { a, c := impl.PlaysAlong(g.train, g.plays); return show(a, c) },
		"PlayBounds": func(g wearArguments) string {
			a, b, c := impl.PlayBounds(g.train, g.plays, g.highs)
			return show(a, b, c)
		},
		"WidestPlay": func(g wearArguments) string { a, b, c := impl.WidestPlay(g.train, g.plays); return show(a, b, c) },
		"PlaysOf":    func(g wearArguments) string { a, c := impl.PlaysOf(g.train, g.teeth); return show(a, c) },
		"WeekOf":     func(g wearArguments) string { a, b, c := impl.WeekOf(g.train, g.teeth, g.x, g.y); return show(a, b, c) },
		"YearOf": func(g wearArguments) string {
			a, b, c := impl.YearOf(g.train, g.teeth, g.torques, g.y)
			return show(a, b, c)
		},
		"CountChanges": func(g wearArguments) string { a, b, c := impl.CountChanges(g.changes); return show(a, b, c) },
		"QuietWeeks":   func(g wearArguments) string { a, c := impl.QuietWeeks(g.train, g.teeth, g.x, g.y); return show(a, c) },
		"ToothText":    func(g wearArguments) string { return show(impl.ToothText(g.a)) },
		"ReadTooth":    func(g wearArguments) string { a, c := impl.ReadTooth(g.text); return show(a, c) },
	}
}

func pickWearArguments(p *picker, good, bad []impl.Tooth) wearArguments {
	limits := []float32{0, negZero, tiny, 0.25, 0.5, below(1), 1}
	torques := []float32{0, negZero, tiny, 1, -1, 16, -16, 4096, plainest, -plainest}
	texts := []string{"", "42800000,3f100000,00000000,0", "3f800000,80000000,3f800000,1", "42800000,3f100000,00000000,2", "42800000,7fc00000,00000000,0", "\xff"}
	g := wearArguments{
		train: mostly(p, someTrains(40), badTrains()),
		a:     mostly(p, good, bad), b: mostly(p, good, bad),
		x: mostly(p, torques, notNumbers), y: mostly(p, limits, noParts),
		text: oneOf(p, texts),
	}
	count := len(g.train)
	if p.below(8) == 0 {
		count = p.below(10)
	}
	for range count {
		g.teeth = append(g.teeth, oneOf(p, good))
		play := oneOf(p, limits)
		g.plays, g.highs = append(g.plays, play), append(g.highs, max(play, oneOf(p, limits)))
	}
	if count > 0 && p.below(6) == 0 {
		g.teeth[p.below(count)], g.plays[p.below(count)], g.highs[p.below(count)] = oneOf(p, bad), oneOf(p, noParts), oneOf(p, limits)
	}
	for range p.below(110) {
		g.torques = append(g.torques, oneOf(p, torques))
	}
	for range p.below(900) {
		g.changes = append(g.changes, changeOf(int16(p.below(104)), int8(p.below(8)), p.below(2) == 0))
	}
	return g
}

// Promise 1: every function returns, modifies no argument, and returns equal
// results for equal arguments.
func TestPromise1OfWear(t *testing.T) {
	p := picker(121)
	calls := wearCalls()
	good, bad := someTeeth(60), badTeeth()
	for range 1000 {
		first := pickWearArguments(&p, good, bad)
		second := first
		second.train, second.teeth = spacious(first.train), roomy(first.teeth, toothOf(7, 0.75, 0.25, 1))
		second.plays, second.highs, second.torques = roomy(first.plays, 0.75), roomy(first.highs, 0.75), roomy(first.torques, 77)
		second.changes = roomy(first.changes, changeOf(7, 7, true))
		shown := func() string {
			return whole(second.train) + all(second.teeth) + all(second.plays) + all(second.highs) + all(second.torques) + all(second.changes)
		}
		before := shown()
		expectEqual(t, calls, first, second)
		expect(t, "arguments", shown(), before)
	}
}

// Promise 1, also where several calls are made at once.
func TestPromise1OfWearAtOnce(t *testing.T) {
	p := picker(122)
	good, bad := someTeeth(20), badTeeth()
	for range 50 {
		expectAtOnce(t, wearCalls(), pickWearArguments(&p, good, bad))
	}
}

func TestPromise1OfManyTeeth(t *testing.T) {
	numbers := slices.Repeat([]float32{0.5}, 1000000)
	g := wearArguments{
		train: exampleTrain(), a: exampleTooth(), b: exampleTooth(), teeth: slices.Repeat([]impl.Tooth{exampleTooth()}, 1000000),
		x: 16, y: 0.5, plays: numbers, highs: numbers, torques: numbers, changes: make([]impl.Change, 1000000), text: strings.Repeat("42800000,", 111111),
	}
	expectManyTeeth := func(ofTeeth, ofPlays, ofYears int) {
		t.Helper()
		for _, name := range []string{"WeekOf", "QuietWeeks", "PlaysOf", "PlaysAlong", "PlayAt", "WidestPlay", "PlayBounds", "YearOf", "CountChanges"} {
			once := wearCalls()[name](g)
			expect(t, name, wearCalls()[name](g), once)
		}
		_, c1 := impl.PlaysOf(g.train, g.teeth)
		_, _, c2 := impl.WeekOf(g.train, g.teeth, g.x, g.y)
		_, c3 := impl.PlaysAlong(g.train, g.plays)
		_, _, c4 := impl.YearOf(g.train, g.teeth[:2], g.torques, g.y)
		_, _, c5 := impl.CountChanges(g.changes)
		expect(t, "many", show(c1, c2, c3, c4, c5), show(ofTeeth, ofTeeth, ofPlays, ofYears, impl.ErrLimit))
	}
	expectManyTeeth(impl.ErrState, impl.ErrRange, impl.ErrLimit)
	numbers[999999] = nan
	expectManyTeeth(impl.ErrState, impl.ErrRange, impl.ErrRange)
	g.teeth[999999].Side = 2
	expectManyTeeth(impl.ErrInvalid, impl.ErrRange, impl.ErrRange)
	g.train = repeated(pairOf(12, 48, 0), 1000000)
	expectManyTeeth(impl.ErrInvalid, impl.ErrInvalid, impl.ErrInvalid)
	_, code := impl.ReadTooth(g.text)
	expect(t, "ReadTooth", show(code), show(impl.ErrSyntax))
}

// Promise 1 and the convention of purity: results share no memory, neither
// with arguments nor with each other.
func TestTeethAreNewMemory(t *testing.T) {
	train := spacious(exampleTrain())
	teeth := roomy([]impl.Tooth{toothOf(64, 0.75, 0, 0), toothOf(64, 0.75, 0.75, 1)}, exampleTooth())
	plays, torques := roomy([]float32{0.25, 0.5}, 0.75), roomy([]float32{16, 0, -16}, 77)
	arguments := func() string { return whole(train) + all(teeth) + all(plays) + all(torques) }
	results := func() ([][]float32, [][]impl.Tooth, [][]impl.Change) {
		along, c1 := impl.PlaysAlong(train, plays)
		worn, c2 := impl.PlaysOf(train, teeth)
		week, weekly, c3 := impl.WeekOf(train, teeth, 16, 0.5)
		year, yearly, c4 := impl.YearOf(train, teeth, torques, 0.5)
		none, _, c5 := impl.YearOf(train, teeth, nil, 0.5)
		expect(t, "codes", show(c1, c2, c3, c4, c5), show(0, 0, 0, 0, 0))
		return [][]float32{along, worn}, [][]impl.Tooth{week, year, none}, [][]impl.Change{weekly, yearly}
	}
	before := arguments()
	firstPlays, firstTeeth, firstChanges := results()
	secondPlays, secondTeeth, secondChanges := results()
	wanted := show(firstPlays, firstTeeth, firstChanges)
	for i := range firstPlays {
		clear(firstPlays[i][:cap(firstPlays[i])])
	}
	for i, list := range firstTeeth {
		clear(list[:cap(list)])
		expect(t, "other teeth", show(firstTeeth[i+1:]), show(secondTeeth[i+1:]))
	}
	for i := range firstChanges {
		clear(firstChanges[i][:cap(firstChanges[i])])
	}
	expect(t, "results of the same arguments", show(secondPlays, secondTeeth, secondChanges), wanted)
	expect(t, "arguments of results that are written over", arguments(), before)
	clear(teeth[:cap(teeth)])
	clear(plays[:cap(plays)])
	clear(torques[:cap(torques)])
	clear(train[:cap(train)])
	expect(t, "results whose arguments are written over", show(secondPlays, secondTeeth, secondChanges), wanted)
}

// Promise 13: teeth are worn, but never less than before on the side that is
// used; the other side stays as it is.
func TestPromise13(t *testing.T) {
	worn := 0
	for _, c := range someWears(20000) {
		next, code := impl.WornBy(c.tooth, c.load)
		side := c.tooth.Side
		if code != 0 || !impl.ValidTooth(next) || !(next.Wears[side] >= c.tooth.Wears[side]) {
			t.Errorf("%+v is worn by %v to %+v (%v)", c.tooth, c.load, next, code)
		}
		if next.Wears[side] > c.tooth.Wears[side] {
			worn++
		}
		next.Wears[side] = c.tooth.Wears[side]
		expect(t, "what stays", show(next), show(c.tooth))
		// More load wears no less, harder teeth are worn no more.
		more, one := impl.WornBy(c.tooth, min(product(c.load, 1.5), plainest))
		harder := c.tooth
		harder.Hard = min(product(harder.Hard, 1.5), hardest)
		less, two := impl.WornBy(harder, c.load)
		next, _ = impl.WornBy(c.tooth, c.load)
		if one != 0 || two != 0 || !(more.Wears[side] >= next.Wears[side]) || !(less.Wears[side] <= next.Wears[side]) {
			t.Errorf("%+v is worn by %v to %+v, by more load to %+v, and %+v if it is harder", c.tooth, c.load, next, more, less)
		}
	}
	if worn < 10000 {
		t.Errorf("only %v teeth of 20000 are worn", worn)
	}
}

// Promise 13 of weeks: what is worn adds up to the limit in as many weeks as
// are told, and stays beyond it.
func TestPromise13OfWeeks(t *testing.T) {
	found := 0
	for _, c := range someWears(5000) {
		weeks, code := impl.WeeksUntil(c.tooth, c.load, c.limit)
		tooth, first := c.tooth, -1
		for week := range 105 {
			wear, one := impl.WearOf(tooth)
			if first < 0 && wear > c.limit {
				first = week
			}
			if one != 0 || (first >= 0) != (wear > c.limit) {
				t.Errorf("%+v has the wear %v behind the week %v, the limit being %v", c, wear, week, c.limit)
			}
			tooth, _ = impl.WornBy(tooth, c.load)
		}
		if first < 0 {
			expect(t, "a limit that is not reached", show(weeks, code), show(0, impl.ErrNotFound))
			continue
		}
		expect(t, "WeeksUntil "+show(c), show(weeks, code), show(first, 0))
		found++
	}
	if found < 2000 {
		t.Errorf("only %v limits of 5000 are reached", found)
	}
}

// Promise 13 of changes: a tooth that is turned has both wears as before, and
// is as it was if it is turned twice; a new one has none.
func TestPromise13OfTurnedTeeth(t *testing.T) {
	for _, tooth := range someTeeth(5000) {
		turned, one := impl.TurnTooth(tooth)
		again, two := impl.TurnTooth(turned)
		fresh, three := impl.NewTooth(tooth)
		expect(t, "codes", show(one, two, three), show(0, 0, 0))
		expect(t, "turned", show(turned.Hard, turned.Wears, turned.Side+tooth.Side), show(tooth.Hard, tooth.Wears, 1))
		if !impl.SameTooth(again, tooth) || !impl.ValidTooth(turned) || !impl.ValidTooth(fresh) {
			t.Errorf("%+v is turned to %+v and %+v, and replaced by %+v", tooth, turned, again, fresh)
		}
		newTurned, _ := impl.NewTooth(turned)
		expect(t, "new", show(fresh, newTurned), show(toothOf(tooth.Hard, 0, 0, 0), toothOf(tooth.Hard, 0, 0, 0)))
	}
}

// Promise 13 of invalid arguments: nothing is worn beside an error.
func TestPromise13OfErrors(t *testing.T) {
	for _, tooth := range append(badTeeth(), exampleTooth()) {
		for _, load := range append([]float32{16, plainest}, notSizes...) {
			worn, code := impl.WornBy(tooth, load)
			weeks, weeksCode := impl.WeeksUntil(tooth, load, 0.5)
			want := 0
			if !impl.ValidTooth(tooth) {
				want = impl.ErrInvalid
			} else if !isSize(load) {
				want = impl.ErrRange
			}
			expect(t, "the errors of "+show(tooth, load), show(code, weeksCode), show(want, want))
			if want != 0 {
				expect(t, "nothing beside an error", show(worn, weeks), show(impl.Tooth{}, 0))
			}
		}
	}
}

// Promise 14: play adds up along a train, behind each pair from what is behind
// the pair before.
func TestPromise14(t *testing.T) {
	for _, c := range somePlays(5000) {
		along, code := impl.PlaysAlong(c.train, c.plays)
		if code != 0 || len(along) != len(c.train) || !sameNumbers(along[0], c.plays[0]) {
			t.Fatalf("%+v has the plays %v (%v)", c, along, code)
		}
		for pairs := 1; pairs <= len(c.train); pairs++ {
			part, one := impl.PlaysAlong(c.train[:pairs], c.plays[:pairs])
			last, two := impl.PlayAt(c.train[:pairs], c.plays[:pairs])
			expect(t, "a part of a train", show(part, one, last, two), show(along[:pairs], 0, along[pairs-1], 0))
			if pairs < len(c.train) {
				p := c.train[pairs]
				passed := product(along[pairs-1], quotient(float32(p.Driver), float32(p.Driven)))
				expect(t, "the next play", show(along[pairs]), show(sum(passed, c.plays[pairs])))
			}
		}
		// All numbers are at least 0: what is rounded is a small part of them.
		wide := widePlay(c)
		if off := math.Abs(float64(along[len(along)-1]) - wide); off > 2e-6*wide+1000*float64(tiny) {
			t.Errorf("%+v has the play %v, but without roundings %v", c, along[len(along)-1], wide)
		}
	}
}

// Promise 14: play is turned as the speeds of the axles are, without any sign.
func TestPromise14OfSpeeds(t *testing.T) {
	for _, train := range someTrains(2000) {
		plays := make([]float32, len(train))
		plays[0] = 0.75
		along, one := impl.PlaysAlong(train, plays)
		// The play is that behind the first pair; the second axle has its speed.
		speeds := []float32{0.75}
		if len(train) > 1 {
			speeds, _ = impl.SpeedsOf(train[1:], 0.75)
		}
		for i, speed := range speeds {
			speeds[i] = float32(math.Abs(float64(speed)))
		}
		expect(t, "the play of the first pair", show(along, one), show(speeds, 0))
	}
}

// Promise 14 on wheels that are equal: the plays are summed from left to right.
func TestPromise14OfEvenTrains(t *testing.T) {
	p := picker(123)
	for range 3000 {
		pairs := 1 + p.below(8)
		plays := p.parts(pairs)
		along, code := impl.PlaysAlong(evenTrain(pairs), plays)
		want := []float32{plays[0]}
		for _, play := range plays[1:] {
			want = append(want, sum(want[len(want)-1], play))
		}
		expect(t, "sums of "+show(plays), show(along, code), show(want, 0))
	}
}

// Promise 14: play is no less with more play of a pair, and lies within bounds.
func TestPromise14OfMorePlay(t *testing.T) {
	p := picker(124)
	for _, c := range somePlays(10000) {
		highs := slices.Clone(c.plays)
		pair := p.below(len(highs))
		highs[pair] = max(highs[pair], p.loss())
		before, one := impl.PlayAt(c.train, c.plays)
		more, two := impl.PlayAt(c.train, highs)
		low, high, three := impl.PlayBounds(c.train, c.plays, highs)
		expect(t, "bounds", show(one, two, three, low, high), show(0, 0, 0, before, more))
		if !(more >= before) {
			t.Errorf("%+v has the play %v, and with %v of %v only %v", c, before, highs[pair], pair, more)
		}
		widest, least, code := impl.WidestPlay(c.train, c.plays)
		if code != 0 || !(least <= before) {
			t.Errorf("%+v has the play %v, and without that of %v %v (%v)", c, before, widest, least, code)
		}
		for i := range c.plays {
			without, _ := impl.PlayAt(c.train, c.without(i).plays)
			if without < least || without == least && i < int(widest) || i == int(widest) && !sameNumbers(without, least) {
				t.Errorf("%+v has the play %v without that of %v, but the widest one is %v, with %v", c, without, i, widest, least)
			}
		}
	}
}

// Promise 14 of teeth: what they are worn adds up, and no play is lost by more
// weeks without changes.
func TestPromise14OfTeeth(t *testing.T) {
	for _, c := range someYears(2000) {
		plays, one := impl.PlaysOf(c.train, c.teeth)
		before, two := impl.PlayAt(c.train, plays)
		teeth, changes, three := impl.YearOf(c.train, c.teeth, c.torques, 1)
		more, four := impl.PlaysOf(c.train, teeth)
		after, five := impl.PlayAt(c.train, more)
		if show(one, two, three, four, five) != show(0, 0, 0, 0, 0) || len(changes) != 0 || !(after >= before) {
			t.Errorf("%+v has the play %v, and behind its weeks %v", c, before, after)
		}
	}
}

// Promise 14 of invalid arguments: there is no play beside an error.
func TestPromise14OfErrors(t *testing.T) {
	for _, train := range append(badTrains(), exampleTrain()) {
		for _, x := range append([]float32{0.5}, noParts...) {
			for _, plays := range [][]float32{{x, 0.5}, {0.5, x}, {x}, {x, x, x}, nil} {
				want := 0
				if !impl.ValidTrain(train) {
					want = impl.ErrInvalid
				} else if len(plays) != 2 || !isPart(x) {
					want = impl.ErrRange
				}
				if want != 0 {
					expectNoPlays(t, train, plays, want)
					continue
				}
				along, code := impl.PlaysAlong(train, plays)
				expect(t, "plays of no error", show(along, code), show([]float32{0.5, 1.5}, 0))
			}
		}
	}
}

// begun is the tooth with which a week begins if the change is made that is
// told of it, and whether there is one.
func begun(tooth impl.Tooth, week, pair int, changes []impl.Change) (impl.Tooth, bool) {
	ready := tooth
	turned := slices.Contains(changes, changeOf(int16(week), int8(pair), false))
	replaced := slices.Contains(changes, changeOf(int16(week), int8(pair), true))
	if turned {
		ready, _ = impl.TurnTooth(tooth)
	}
	if replaced {
		ready, _ = impl.NewTooth(tooth)
	}
	return ready, turned || replaced
}

// expectWeek expects of a week that what is worn beyond the limit is turned or
// replaced, that nothing else is, and that all teeth are then worn. It returns
// the teeth behind the week, and the number of its changes.
func expectWeek(t *testing.T, c yearCase, teeth []impl.Tooth, torque float32) ([]impl.Tooth, []impl.Change) {
	t.Helper()
	behind, changes, code := impl.WeekOf(c.train, teeth, torque, c.limit)
	torques, _ := impl.TorquesOf(c.train, torque)
	if code != 0 || len(behind) != len(teeth) {
		t.Fatalf("%v has the week %v (%v)", teeth, behind, code)
	}
	changed := 0
	for i, tooth := range teeth {
		ready, isChanged := begun(tooth, 0, i, changes)
		wear, _ := impl.WearOf(tooth)
		begins, _ := impl.WearOf(ready)
		if isChanged != (wear > c.limit) || !(begins <= c.limit) {
			t.Errorf("%+v with the limit %v begins the week as %+v, changes being %v", tooth, c.limit, ready, changes)
		}
		if isChanged {
			changed++
			// A new tooth is taken only where the other side is worn, too.
			other := slices.Contains(changes, changeOf(0, int8(i), true))
			if other != (tooth.Wears[1-tooth.Side] > c.limit) {
				t.Errorf("%+v with the limit %v is changed by %v", tooth, c.limit, changes)
			}
		}
		load := min(float32(math.Abs(float64(torques[i+1]))), plainest)
		if torques[i+1] == 0 {
			load = torques[i+1]
		}
		worn, _ := impl.WornBy(ready, load)
		expect(t, "a tooth behind the week", show(behind[i]), show(worn))
	}
	expect(t, "changes", show(len(changes)), show(changed))
	return behind, changes
}

// Promise 15: what is worn beyond a limit is turned or replaced, in each week
// of a year.
func TestPromise15(t *testing.T) {
	for _, c := range someYears(1000) {
		teeth, want := c.teeth, []impl.Change{}
		for week, torque := range c.torques {
			next, changes := expectWeek(t, c, teeth, torque)
			for _, change := range changes {
				want = append(want, changeOf(int16(week), change.Pair, change.New))
			}
			teeth = next
		}
		behind, changes, code := impl.YearOf(c.train, c.teeth, c.torques, c.limit)
		expect(t, "a year is made of its weeks", show(behind, changes, code), show(teeth, want, 0))
		expectOrder(t, changes)
	}
}

// expectOrder expects changes in the order of weeks, and then of pairs, and
// counts them.
func expectOrder(t *testing.T, changes []impl.Change) {
	t.Helper()
	replaced := 0
	for i, change := range changes {
		if i > 0 {
			before := changes[i-1]
			if change.Week < before.Week || change.Week == before.Week && change.Pair <= before.Pair {
				t.Errorf("%+v is behind %+v", change, before)
			}
		}
		if change.New {
			replaced++
		}
	}
	turned, news, code := impl.CountChanges(changes)
	expect(t, "CountChanges", show(turned, news, code), show(len(changes)-replaced, replaced, 0))
}

// Promise 15 where limits are reached exactly, or nearly.
func TestPromise15AtLimits(t *testing.T) {
	limits := []float32{0, negZero, tiny, 0.25, 0.5, below(1), 1}
	for _, limit := range limits {
		near := []float32{0, negZero, limit, min(above(limit), 1), max(below(limit), 0), 1}
		for _, first := range near {
			for _, second := range near {
				for side := range int8(2) {
					teeth := []impl.Tooth{toothOf(64, first, second, side), toothOf(64, second, first, side)}
					for _, torque := range []float32{0, negZero, 16, -16, tiny, plainest} {
						expectWeek(t, yearCase{train: exampleTrain(), limit: limit}, teeth, torque)
					}
				}
			}
		}
	}
}

// Promise 15: the weeks without any change are those before the first pair is
// worn beyond the limit.
func TestPromise15OfQuietWeeks(t *testing.T) {
	counts := map[int]int{}
	p := picker(125)
	for _, c := range someYears(3000) {
		torque := p.plain()
		if len(c.torques) > 0 {
			torque = c.torques[0]
		}
		for i, tooth := range c.teeth {
			if p.below(2) == 0 {
				c.teeth[i] = toothOf(min(product(tooth.Hard, 4), hardest), 0, tooth.Wears[1], 0)
			}
		}
		want := int64(104)
		for i, load := range wantLoads(c.train, torque) {
			if weeks, code := impl.WeeksUntil(c.teeth[i], load, c.limit); code == 0 {
				want = min(want, weeks)
			}
		}
		weeks, code := impl.QuietWeeks(c.train, c.teeth, torque, c.limit)
		expect(t, "QuietWeeks "+show(c, torque), show(weeks, code), show(want, 0))
		counts[int(want)]++
		_, changes, one := impl.YearOf(c.train, c.teeth, slices.Repeat([]float32{torque}, int(weeks)), c.limit)
		expect(t, "quiet weeks", show(len(changes), one), show(0, 0))
		if weeks < 104 {
			_, changes, two := impl.YearOf(c.train, c.teeth, slices.Repeat([]float32{torque}, int(weeks)+1), c.limit)
			if two != 0 || len(changes) == 0 || changes[0].Week != int16(weeks) {
				t.Errorf("%+v has the changes %v behind %v quiet weeks", c, changes, weeks)
			}
		}
	}
	if len(counts) < 30 {
		t.Errorf("there are too few numbers of weeks: %v", counts)
	}
}

// Promise 15 of invalid arguments: weeks and years have the same errors, and
// nothing is changed beside one.
func TestPromise15OfErrors(t *testing.T) {
	good := exampleTooth()
	for _, tooth := range append(badTeeth(), good) {
		for _, torque := range append([]float32{16}, notPlains...) {
			for _, limit := range append([]float32{0.5}, noParts...) {
				for _, teeth := range [][]impl.Tooth{{good, tooth}, {tooth}, {tooth, good, good}} {
					want := 0
					if !impl.ValidTooth(tooth) {
						want = impl.ErrInvalid
					} else if !isPlain(torque) || !isPart(limit) {
						want = impl.ErrRange
					} else if len(teeth) != 2 {
						want = impl.ErrState
					}
					if want != 0 {
						expectNoWeeks(t, exampleTrain(), teeth, torque, limit, want)
						continue
					}
					_, _, code := impl.WeekOf(exampleTrain(), teeth, torque, limit)
					expect(t, "no error", show(code), show(0))
				}
			}
		}
	}
}
