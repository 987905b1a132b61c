package tests

import (
	"math"

	"loop.example/g01344/impl"
)

// greatestRate is a limit that the document gives no name.
const greatestRate = float32(1024)

// notRates are numbers that are no rates.
var notRates = []float32{-tiny, -1, above(greatestRate), plainest, inf, -inf, nan, otherNaN}

func stoneOf(drag, rub, bite, grit float32) impl.Stone {
	return impl.Stone{Drag: drag, Rub: rub, Bite: bite, Grit: grit}
}

// exampleStone is that of the document.
func exampleStone() impl.Stone { return stoneOf(2, 0.5, 1, 1) }

// withGrit returns a stone with another grit.
func withGrit(s impl.Stone, grit float32) impl.Stone {
	s.Grit = grit
	return s
}

// rate picks a rate, sometimes one of those that only many halvings find.
func (p *picker) rate() float32 {
	if p.below(12) == 0 {
		return p.between(1e-12, 1)
	}
	return p.upTo(greatestRate)
}

func (p *picker) stone() impl.Stone {
	s := stoneOf(p.rate(), p.rate(), p.rate(), p.loss())
	if p.below(2) == 0 {
		// Little drag: the speed then depends on the rub.
		s.Drag = p.between(1e-12, 0.25)
	}
	return s
}

// someStones are valid stones, the first ones at limits.
func someStones(count int) []impl.Stone {
	p := picker(61)
	list := []impl.Stone{
		exampleStone(), {}, stoneOf(negZero, negZero, negZero, negZero), stoneOf(1024, 1024, 1024, 1),
		stoneOf(0, 1024, 0, 1), stoneOf(0, 0, 0, 1), stoneOf(tiny, tiny, tiny, tiny), stoneOf(0, 1, 0, 1),
	}
	for len(list) < count {
		list = append(list, p.stone())
	}
	return list
}

// torqueFor picks a torque, often one that is the load at a speed, or nearly.
func (p *picker) torqueFor(s impl.Stone, feed float32) float32 {
	load, idle := wantLoad(s, p.rate(), feed), wantLoad(s, 0, feed)
	torque := load
	switch p.below(14) {
	case 0:
		torque = 0
	case 1:
		return negZero
	case 2:
		torque = plainest
	case 3:
		torque = tiny
	case 4:
		torque = above(load)
	case 5:
		torque = below(load)
	case 6:
		torque = idle
	case 7:
		torque = below(idle)
	case 8, 9:
		torque = product(load, p.between(0.5, 2))
	}
	return min(max(torque, 0), plainest)
}

func (p *picker) torquesFor(s impl.Stone, feed float32, count int) []float32 {
	list := make([]float32, count)
	for i := range list {
		list[i] = p.torqueFor(s, feed)
	}
	return list
}

// flours picks how much a stone has ground.
func (p *picker) flours() float32 {
	if p.below(8) == 0 {
		return float32(p.below(8)) * 1024
	}
	return p.upTo(plainest)
}

// hourCase is a stone with a torque and a feed.
type hourCase struct {
	stone        impl.Stone
	torque, feed float32
}

func someHours(count int) []hourCase {
	p := picker(62)
	var list []hourCase
	for _, s := range someStones(count) {
		feed := p.rate()
		list = append(list, hourCase{s, p.torqueFor(s, feed), feed})
	}
	return list
}

// badStones are stones that are not valid, each for one reason.
func badStones() []impl.Stone {
	list := []impl.Stone{}
	for _, rate := range notRates {
		list = append(list, stoneOf(rate, 0.5, 1, 1), stoneOf(2, rate, 1, 1), stoneOf(2, 0.5, rate, 1))
	}
	for _, grit := range noParts {
		list = append(list, stoneOf(2, 0.5, 1, grit))
	}
	return list
}

// The following ones follow the document's words with wide numbers, each of
// which is rounded at once.

func wantIdle(s impl.Stone, speed float32) float32 { return sum(s.Drag, product(s.Rub, speed)) }

func wantLoad(s impl.Stone, speed, feed float32) float32 {
	return sum(wantIdle(s, speed), product(s.Bite, feed))
}

func wantFlour(s impl.Stone, speed, feed float32) float32 {
	return product(product(speed, feed), s.Grit)
}

func wantFeed(s impl.Stone, torque, speed float32) (float32, int) {
	spare := difference(torque, wantIdle(s, speed))
	if spare < 0 {
		return 0, impl.ErrNotFound
	}
	if s.Bite == 0 {
		return greatestRate, 0
	}
	if feed := quotient(spare, s.Bite); feed < greatestRate {
		return feed, 0
	}
	return greatestRate, 0
}

// wantAll is the load of several stones at each speed.
func wantAll(feed float32, list ...impl.Stone) func(float32) float32 {
	return func(speed float32) float32 {
		var whole float32
		for _, s := range list {
			whole = sum(whole, wantLoad(s, speed, feed))
		}
		return whole
	}
}

func wantTurning(load func(float32) float32, torque float32, times int) (float32, int) {
	if load(0) > torque {
		return 0, impl.ErrNotFound
	}
	return wantHalved(0, 1024, torque, times, load), 0
}

func wantDulled(s impl.Stone, flour float32) impl.Stone {
	grit := difference(s.Grit, product(s.Grit, quotient(flour, 4096)))
	if !(grit > 0) {
		grit = 0
	}
	return withGrit(s, grit)
}

// wantHour is an hour with as many halvings as told.
func wantHour(c hourCase, times int) (impl.Stone, float32) {
	speed, code := wantTurning(wantAll(c.feed, c.stone), c.torque, times)
	if code != 0 {
		return c.stone, 0
	}
	flour := wantFlour(c.stone, speed, c.feed)
	if flour > plainest {
		flour = plainest
	}
	return wantDulled(c.stone, flour), flour
}

// wantDay is a day on which a stone is dressed if its grit is less than least.
func wantDay(s impl.Stone, torques []float32, feed, least float32) (impl.Stone, []float32, int) {
	list, times := []float32{}, 0
	for _, torque := range torques {
		var flour float32
		if s.Grit < least {
			s.Grit = 1
			times++
		} else {
			s, flour = wantHour(hourCase{s, torque, feed}, 40)
		}
		list = append(list, flour)
	}
	return s, list, times
}

func wantSum(list []float32) float32 {
	var whole float32
	for _, a := range list {
		whole = sum(whole, a)
	}
	return whole
}

// wantSums are the sums of the flour behind 0 to 60 hours with one torque.
func wantSums(c hourCase) []float32 {
	sums := []float32{0}
	for range 60 {
		var flour float32
		c.stone, flour = wantHour(c, 40)
		sums = append(sums, sum(sums[len(sums)-1], flour))
	}
	return sums
}

func wantHours(c hourCase, amount float32) (int, int) {
	for hours, whole := range wantSums(c) {
		if whole >= amount {
			return hours, 0
		}
	}
	return 0, impl.ErrNotFound
}

func wantShares(list []impl.Stone, torque, feed float32, times int) ([]float32, int) {
	speed, code := wantTurning(wantAll(feed, list...), torque, times)
	if code != 0 || len(list) == 0 {
		return nil, impl.ErrNotFound
	}
	shares := []float32{}
	for _, s := range list {
		shares = append(shares, wantLoad(s, speed, feed))
	}
	return shares, 0
}

func wantBestFeed(s impl.Stone, torque float32, feeds []float32) (int, float32) {
	best, most := 0, float32(math.Inf(-1))
	for i := range feeds {
		if _, flour := wantHour(hourCase{s, torque, feeds[i]}, 40); flour > most {
			best, most = i, flour
		}
	}
	return best, most
}
