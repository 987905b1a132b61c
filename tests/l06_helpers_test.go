package tests

import (
	"slices"

	"loop.example/g01344/impl"
)

// Limits of wear as narrow numbers.
const (
	softest = float32(1)
	hardest = float32(65536)
)

// notHards are numbers that tell no hardness.
var notHards = []float32{below(softest), above(hardest), 0, negZero, tiny, -1, -64, plainest, inf, -inf, nan, otherNaN}

func toothOf(hard, first, second float32, side int8) impl.Tooth {
	return impl.Tooth{Hard: hard, Wears: [2]float32{first, second}, Side: side}
}

func changeOf(week int16, pair int8, isNew bool) impl.Change {
	return impl.Change{Week: week, Pair: pair, New: isNew}
}

// exampleTooth and exampleTrain are those of the document.
func exampleTooth() impl.Tooth { return toothOf(64, 0, 0, 0) }

func exampleTrain() impl.Train { return impl.Train{pairOf(12, 48, 0), pairOf(20, 10, 0)} }

// evenTrain has wheels that pass all torque on, and turn equally fast.
func evenTrain(pairs int) impl.Train { return repeated(pairOf(12, 12, 0), pairs) }

func (p *picker) tooth() impl.Tooth {
	hard := p.between(softest, hardest)
	if p.below(8) == 0 {
		hard = oneOf(p, []float32{softest, above(softest), 64, below(hardest), hardest})
	}
	return toothOf(hard, p.loss(), p.loss(), int8(p.below(2)))
}

// someTeeth are valid teeth, the first ones at limits.
func someTeeth(count int) []impl.Tooth {
	p := picker(111)
	list := []impl.Tooth{
		exampleTooth(), toothOf(softest, 0, 0, 0), toothOf(softest, 0, 0, 1), toothOf(hardest, 1, 1, 0), toothOf(hardest, 1, 1, 1),
		toothOf(64, negZero, negZero, 0), toothOf(64, negZero, 1, 1), toothOf(softest, tiny, below(1), 0), toothOf(softest, tiny, below(1), 1),
	}
	for len(list) < count {
		list = append(list, p.tooth())
	}
	return list
}

// badTeeth are teeth that are not valid, each for one reason.
func badTeeth() []impl.Tooth {
	list := []impl.Tooth{{}}
	for _, hard := range notHards {
		list = append(list, toothOf(hard, 0.5, 0.25, 0), toothOf(hard, 0.5, 0.25, 1))
	}
	for _, wear := range noParts {
		list = append(list, toothOf(64, wear, 0.25, 0), toothOf(64, wear, 0.25, 1), toothOf(64, 0.5, wear, 0), toothOf(64, 0.5, wear, 1))
	}
	for _, side := range []int8{-1, 2, 3, -128, 127} {
		list = append(list, toothOf(64, 0.5, 0.25, side))
	}
	return list
}

// wearCase is a tooth with a load and a limit.
type wearCase struct {
	tooth       impl.Tooth
	load, limit float32
}

// loadFor picks a load, mostly one that wears a tooth in some weeks.
func (p *picker) loadFor(hard float32) float32 {
	if p.below(6) == 0 {
		return p.upTo(plainest)
	}
	return min(product(hard, p.between(1.0/4096, 2)), plainest)
}

func someWears(count int) []wearCase {
	p := picker(112)
	var list []wearCase
	for _, tooth := range someTeeth(count) {
		if p.below(2) == 0 {
			tooth.Wears[tooth.Side] = product(p.loss(), 0.125)
		}
		limit := p.loss()
		if p.below(8) == 0 {
			limit = tooth.Wears[tooth.Side]
		}
		list = append(list, wearCase{tooth, p.loadFor(tooth.Hard), limit})
	}
	return list
}

// playCase is a train with its plays.
type playCase struct {
	train impl.Train
	plays []float32
}

func (p *picker) parts(count int) []float32 {
	list := make([]float32, count)
	for i := range list {
		list[i] = p.loss()
	}
	return list
}

// somePlays are trains with plays, in some of which two pairs are equally wide.
func somePlays(count int) []playCase {
	p := picker(113)
	var list []playCase
	for _, train := range someTrains(count) {
		plays := p.parts(len(train))
		if p.below(4) == 0 {
			train = repeated(pairOf(24, oneOf(&p, []int16{12, 24, 48}), 0), len(train))
			for i := range plays {
				plays[i] = float32(p.below(3)) / 4
			}
		}
		list = append(list, playCase{train, plays})
	}
	return list
}

// yearCase is a train with its teeth, which is driven for weeks.
type yearCase struct {
	train   impl.Train
	teeth   []impl.Tooth
	torques []float32
	limit   float32
}

// year picks a year in which most teeth wear beyond the limit now and then.
func (p *picker) year(train impl.Train, weeks int) yearCase {
	c := yearCase{train: train, limit: oneOf(p, []float32{0, negZero, tiny, 0.25, 0.5, 1, p.loss(), p.loss()})}
	torque := p.between(1, 4096)
	for _, load := range wantLoads(train, torque) {
		tooth := p.tooth()
		tooth.Hard = min(max(product(load, p.between(1, 256)), softest), hardest)
		if p.below(3) == 0 {
			tooth.Wears[p.below(2)] = c.limit
		}
		c.teeth = append(c.teeth, tooth)
	}
	for range weeks {
		c.torques = append(c.torques, oneOf(p, []float32{torque, -torque, quotient(torque, 2), min(2*torque, plainest), 0, negZero, p.plain()}))
	}
	return c
}

// someYears are years of trains of all lengths, most of them short.
func someYears(count int) []yearCase {
	p := picker(114)
	var list []yearCase
	for _, train := range someTrains(count) {
		for i := range train {
			if train[i].Loss == 1 && p.below(2) == 0 {
				train[i].Loss = 0.25
			}
		}
		list = append(list, p.year(train, oneOf(&p, []int{0, 1, 2, 103, 104, p.below(105), p.below(20)})))
	}
	return list
}

// The following ones follow the document's words with wide numbers, each of
// which is rounded at once.

func wantWorn(t impl.Tooth, load float32) impl.Tooth {
	wear := t.Wears[t.Side]
	wear = sum(wear, quotient(product(load, sum(1, wear)), t.Hard))
	if wear > 1 {
		wear = 1
	}
	t.Wears[t.Side] = wear
	return t
}

func wantTurned(t impl.Tooth) impl.Tooth {
	return toothOf(t.Hard, t.Wears[0], t.Wears[1], map[int8]int8{0: 1, 1: 0}[t.Side])
}

func wantUntil(c wearCase) (int, int) {
	for weeks := 0; weeks <= 104; weeks++ {
		if c.tooth.Wears[c.tooth.Side] > c.limit {
			return weeks, 0
		}
		c.tooth = wantWorn(c.tooth, c.load)
	}
	return 0, impl.ErrNotFound
}

func wantAlong(c playCase) []float32 {
	list := []float32{c.plays[0]}
	for i, p := range c.train[1:] {
		passed := product(list[i], quotient(float32(p.Driver), float32(p.Driven)))
		list = append(list, sum(passed, c.plays[i+1]))
	}
	return list
}

func wantPlay(c playCase) float32 { return wantAlong(c)[len(c.train)-1] }

// without is the same train whose pair has no play.
func (c playCase) without(pair int) playCase {
	plays := slices.Clone(c.plays)
	plays[pair] = 0
	return playCase{c.train, plays}
}

func wantWidest(c playCase) (int, float32) {
	pairs := []int{}
	for i := range c.plays {
		pairs = append(pairs, i)
	}
	return firstLeast(pairs, func(pair int) float32 { return wantPlay(c.without(pair)) })
}

func wantLoads(train impl.Train, torque float32) []float32 {
	var list []float32
	for _, a := range axleTorques(train, torque)[1:] {
		if a < 0 {
			a = difference(0, a)
		}
		list = append(list, min(a, plainest))
	}
	return list
}

// wantYear makes weeks in two steps: first all teeth are turned or replaced,
// then all of them are worn.
func wantYear(c yearCase) ([]impl.Tooth, []impl.Change) {
	teeth, changes := slices.Clone(c.teeth), []impl.Change{}
	for week, torque := range c.torques {
		for i, tooth := range teeth {
			used, other := tooth.Wears[tooth.Side], tooth.Wears[1-tooth.Side]
			if used > c.limit && other > c.limit {
				teeth[i] = toothOf(tooth.Hard, 0, 0, 0)
				changes = append(changes, changeOf(int16(week), int8(i), true))
			} else if used > c.limit {
				teeth[i] = wantTurned(tooth)
				changes = append(changes, changeOf(int16(week), int8(i), false))
			}
		}
		for i, load := range wantLoads(c.train, torque) {
			teeth[i] = wantWorn(teeth[i], load)
		}
	}
	return teeth, changes
}

// wantQuiet is the week of the first change with one torque.
func wantQuiet(c yearCase, torque float32) int {
	c.torques = slices.Repeat([]float32{torque}, 104)
	_, changes := wantYear(c)
	if len(changes) == 0 {
		return 104
	}
	return int(changes[0].Week)
}
