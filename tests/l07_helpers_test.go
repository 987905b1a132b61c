package tests

import (
	"math"
	"slices"

	"loop.example/g01344/impl"
)

// Limits of what trembles as narrow numbers.
const (
	leastDivisor    = float32(1.0 / 1024)
	leastInertia    = float32(1.0 / 64)
	greatestInertia = float32(1024)
	leastStiff      = float32(1.0 / 64)
	slant           = float32(0.70703125)
)

// notInertias and notStiffs are numbers that discs cannot have.
var (
	notInertias = []float32{below(leastInertia), above(greatestInertia), 0, negZero, tiny, -1, -leastInertia, plainest, inf, -inf, nan, otherNaN}
	notStiffs   = []float32{below(leastStiff), above(plainest), 0, negZero, tiny, -1, -leastStiff, -plainest, inf, -inf, nan, otherNaN}
)

func weightOf(east, north, mass float32) impl.Weight {
	return impl.Weight{At: complex(east, north), Mass: mass}
}

func discOf(inertia, stiff float32) impl.Disc { return impl.Disc{Inertia: inertia, Stiff: stiff} }

// The examples are those of the document.
func exampleWeights() []impl.Weight { return []impl.Weight{weightOf(1, 0, 2), weightOf(0, 1, 1)} }

func exampleReadings() [8]float32 { return [8]float32{1, 0, -1, 0, 1, 0, -1, 0} }

func exampleLine() []impl.Disc { return []impl.Disc{discOf(1, 2), discOf(1, 1)} }

// evenLine has equal discs.
func evenLine(count int, inertia, stiff float32) []impl.Disc {
	return slices.Repeat([]impl.Disc{discOf(inertia, stiff)}, count)
}

// wantPlaces are the points behind the eighths of a turn, in their order.
func wantPlaces() [8]complex64 {
	return [8]complex64{
		complex(1, 0), complex(slant, slant), complex(0, 1), complex(-slant, slant),
		complex(-1, 0), complex(-slant, -slant), complex(0, -1), complex(slant, -slant),
	}
}

// notPoints are numbers that lie nowhere.
func notPoints() []complex64 {
	var list []complex64
	for _, x := range notPlains {
		list = append(list, complex(x, 0), complex(0, x), complex(x, x), complex(1, x), complex(x, plainest))
	}
	return list
}

// anyNumber picks any number: one of any size and sign, or one that is special.
func (p *picker) anyNumber() float32 {
	switch p.below(4) {
	case 0:
		return oneOf(p, []float32{0, negZero, tiny, -tiny, 3 * tiny, 0.5, -0.5, 1, -1, plainest, -plainest, 1 << 64, -(1 << 64), math.MaxFloat32, -math.MaxFloat32, inf, -inf, nan, otherNaN})
	case 1:
		return p.signed(64)
	}
	return math.Float32frombits(uint32(p.below(1<<30))<<2 | uint32(p.below(4)))
}

func (p *picker) anyComplex() complex64 { return complex(p.anyNumber(), p.anyNumber()) }

// signed picks a number whose size is at most a great one.
func (p *picker) signed(greatest float32) float32 {
	if p.below(2) == 0 {
		return -p.upTo(greatest)
	}
	return p.upTo(greatest)
}

func (p *picker) point() complex64 {
	greatest := oneOf(p, []float32{1, 64, 64, plainest})
	return complex(p.signed(greatest), p.signed(greatest))
}

func (p *picker) weights(count int) []impl.Weight {
	var list []impl.Weight
	mass := oneOf(p, []float32{1, 64, 4096, plainest})
	for range count {
		list = append(list, impl.Weight{At: p.point(), Mass: p.upTo(mass)})
	}
	return list
}

// evenWeights are equal weights.
func evenWeights(count int, east, north, mass float32) []impl.Weight {
	return slices.Repeat([]impl.Weight{weightOf(east, north, mass)}, count)
}

// someWeights are valid weights, the first ones at limits.
func someWeights(count int) [][]impl.Weight {
	p := picker(131)
	list := [][]impl.Weight{
		nil, {}, exampleWeights(), evenWeights(20, 0, 0, 0), evenWeights(20, negZero, negZero, negZero), evenWeights(20, plainest, -plainest, plainest), evenWeights(20, -plainest, plainest, plainest),
		{weightOf(1, 1, 0)}, {weightOf(-1, -1, 0)}, {weightOf(-1, 1, negZero)}, {weightOf(tiny, -tiny, 1)}, {weightOf(tiny, -tiny, 0.5)}, {weightOf(1, 0, plainest), weightOf(-1, 0, plainest)},
	}
	for len(list) < count {
		list = append(list, p.weights(p.below(21)))
	}
	return list
}

// badWeights are weights that are not valid, each for one reason.
func badWeights() [][]impl.Weight {
	list := [][]impl.Weight{evenWeights(21, 1, 0, 1), evenWeights(21, 0, 0, 0), evenWeights(1000, 1, 0, 1)}
	for _, at := range notPoints() {
		bad := impl.Weight{At: at, Mass: 1}
		list = append(list, []impl.Weight{bad}, append(evenWeights(19, 1, 0, 1), bad), append([]impl.Weight{bad}, exampleWeights()...))
	}
	for _, mass := range notSizes {
		bad := weightOf(1, 1, mass)
		list = append(list, []impl.Weight{bad}, append(evenWeights(19, 1, 0, 1), bad), append([]impl.Weight{bad}, exampleWeights()...))
	}
	return list
}

// readings picks readings of a size, some of which are at limits.
func (p *picker) readings(greatest float32) [8]float32 {
	var list [8]float32
	for i := range list {
		list[i] = p.signed(greatest)
	}
	return list
}

func someReadings(count int) [][8]float32 {
	p := picker(132)
	list := [][8]float32{{}, exampleReadings(), {negZero, negZero, negZero, negZero, negZero, negZero, negZero, negZero}}
	for i := range 8 {
		var lone, low [8]float32
		lone[i], low[i] = 1, -plainest
		list = append(list, lone, low)
	}
	for len(list) < count {
		list = append(list, p.readings(oneOf(&p, []float32{1, 64, plainest})))
	}
	return list
}

func someSwings(count int) [][8]complex64 {
	p := picker(133)
	list := [][8]complex64{{}, {8}, {complex(0, 8)}, {complex(negZero, negZero)}}
	for len(list) < count {
		var swings [8]complex64
		for i := range swings {
			swings[i] = p.point()
		}
		list = append(list, swings)
	}
	return list
}

// line picks a line, most of which have answers that are not too great.
func (p *picker) line(count int) []impl.Disc {
	var line []impl.Disc
	for range count {
		disc := discOf(p.between(0.25, 4), p.between(1, 1024))
		switch p.below(6) {
		case 0:
			disc = discOf(p.between(leastInertia, greatestInertia), p.between(leastStiff, plainest))
		case 1:
			disc = discOf(oneOf(p, []float32{leastInertia, 1, greatestInertia}), oneOf(p, []float32{leastStiff, 1, 4, plainest}))
		}
		line = append(line, disc)
	}
	return line
}

// someLines are lines of all lengths, the first ones at limits.
func someLines(count int) [][]impl.Disc {
	p := picker(134)
	list := [][]impl.Disc{
		exampleLine(), evenLine(2, leastInertia, leastStiff), evenLine(2, greatestInertia, plainest), evenLine(10, leastInertia, leastStiff), evenLine(10, greatestInertia, plainest),
		evenLine(10, greatestInertia, leastStiff), evenLine(10, leastInertia, plainest), evenLine(10, 1, 1),
	}
	for len(list) < count {
		list = append(list, p.line(2+p.below(9)))
	}
	return list
}

// badLines are discs that are no line, each for one reason.
func badLines() [][]impl.Disc {
	list := [][]impl.Disc{nil, {}, exampleLine()[:1], evenLine(11, 1, 1), evenLine(1000, 1, 1)}
	bad := func(disc impl.Disc) {
		list = append(list, append(exampleLine(), disc), append([]impl.Disc{disc}, exampleLine()...), append(evenLine(9, 1, 1), disc), []impl.Disc{disc, discOf(1, 1)})
	}
	for _, x := range notInertias {
		bad(discOf(x, 1))
	}
	for _, x := range notStiffs {
		bad(discOf(1, x))
	}
	return list
}

// The following ones follow the document's words with wide numbers, each of
// which is rounded at once.

func wantPlus(a, b complex64) complex64 {
	return complex(sum(real(a), real(b)), sum(imag(a), imag(b)))
}

func wantTimes(a, b complex64) complex64 {
	east := difference(product(real(a), real(b)), product(imag(a), imag(b)))
	return complex(east, sum(product(real(a), imag(b)), product(imag(a), real(b))))
}

func wantPart(a complex64, part float32) complex64 {
	return complex(product(real(a), part), product(imag(a), part))
}

func wantSquare(a complex64) float32 {
	return sum(product(real(a), real(a)), product(imag(a), imag(a)))
}

func wantPullOf(list []impl.Weight) complex64 {
	pull := complex64(0)
	for _, w := range list {
		pull = wantPlus(pull, wantPart(w.At, w.Mass))
	}
	return pull
}

// balanceCase is weights with a point, or two.
type balanceCase struct {
	list []impl.Weight
	a, b complex64
}

// someBalances have points at which weights can be, some of which lie just
// opposite the pull, or near to that.
func someBalances(count int) []balanceCase {
	p := picker(135)
	var list []balanceCase
	for _, weights := range someWeights(count) {
		c := balanceCase{weights, p.point(), p.point()}
		pull := wantPullOf(weights)
		if p.below(3) == 0 && wantSquare(pull) > 0 {
			size := float32(math.Sqrt(float64(wantSquare(pull))))
			part := quotient(-p.between(1.0/16, 64), size)
			c.a = wantPart(pull, part)
			c.b = wantPlus(c.a, complex(p.signed(1), p.signed(1)))
		}
		list = append(list, c)
	}
	return list
}

// canBe tells whether BalanceAt can have a weight at a point.
func canBe(at complex64) bool {
	return isPlain(real(at)) && isPlain(imag(at)) && wantSquare(at) >= leastDivisor
}

func (c balanceCase) dot() float32 {
	pull := wantPullOf(c.list)
	return sum(product(real(pull), real(c.a)), product(imag(pull), imag(c.a)))
}

func (c balanceCase) mass() float32 {
	if mass := difference(0, quotient(c.dot(), wantSquare(c.a))); mass > 0 {
		return mass
	}
	return 0
}

func (c balanceCase) left() complex64 {
	return wantPlus(wantPullOf(c.list), wantPart(c.a, c.mass()))
}

func (c balanceCase) det() float32 {
	return difference(product(real(c.a), imag(c.b)), product(imag(c.a), real(c.b)))
}

func (c balanceCase) both() (float32, float32, int) {
	for _, x := range []float32{real(c.a), imag(c.a), real(c.b), imag(c.b)} {
		if !isPlain(x) {
			return 0, 0, impl.ErrRange
		}
	}
	pull, det := wantPullOf(c.list), c.det()
	if det > -leastDivisor && det < leastDivisor {
		return 0, 0, impl.ErrState
	}
	first := quotient(difference(product(imag(pull), real(c.b)), product(real(pull), imag(c.b))), det)
	second := quotient(difference(product(real(pull), imag(c.a)), product(imag(pull), real(c.a))), det)
	if !isSize(first) || !isSize(second) {
		return 0, 0, impl.ErrNotFound
	}
	return first, second, 0
}

// twoPlaces are places at which two masses balance, and the sum of the masses.
type twoPlaces struct {
	first, second int
	sum           float32
}

// wantTwoPlaces are all places at which two masses balance, in their order.
func wantTwoPlaces(list []impl.Weight) []twoPlaces {
	var found []twoPlaces
	for first, a := range wantPlaces() {
		for second, b := range wantPlaces() {
			one, two, code := balanceCase{list, a, b}.both()
			if first < second && code == 0 {
				found = append(found, twoPlaces{first, second, sum(one, two)})
			}
		}
	}
	return found
}

func wantBestPlaces(list []impl.Weight) (twoPlaces, int) {
	found := wantTwoPlaces(list)
	if len(found) == 0 {
		return twoPlaces{}, impl.ErrNotFound
	}
	best, _ := firstLeast(found, func(two twoPlaces) float32 { return two.sum })
	return found[best], 0
}

func wantSwings(readings [8]float32) [8]complex64 {
	var swings [8]complex64
	for n := range swings {
		for k, reading := range readings {
			turn := (8 - n*k%8) % 8
			swings[n] = wantPlus(swings[n], wantPart(wantPlaces()[turn], reading))
		}
	}
	return swings
}

func wantReadings(swings [8]complex64) [8]float32 {
	var readings [8]float32
	for k := range readings {
		whole := complex64(0)
		for n, swing := range swings {
			whole = wantPlus(whole, wantTimes(swing, wantPlaces()[n*k%8]))
		}
		readings[k] = quotient(real(whole), 8)
	}
	return readings
}

func wantStrongest(readings [8]float32) (int, float32) {
	swings := wantSwings(readings)
	strongest, most := 0, float32(-1)
	for n := 1; n <= 4; n++ {
		if square := wantSquare(swings[n]); square > most {
			strongest, most = n, square
		}
	}
	return strongest, most
}

func wantAnswer(line []impl.Disc, square float32) ([]float32, []float32) {
	swings, twists := []float32{1}, []float32{difference(0, product(square, line[0].Inertia))}
	for i, disc := range line[1:] {
		swing := sum(swings[i], quotient(twists[i], line[i].Stiff))
		twist := difference(twists[i], product(product(square, disc.Inertia), swing))
		swings, twists = append(swings, swing), append(twists, twist)
	}
	return swings, twists
}

func signOf(a float32) int {
	switch {
	case a < 0:
		return -1
	case a > 0:
		return 1
	}
	return 0
}

func wantCrossings(line []impl.Disc, square float32) (int, int) {
	swings, _ := wantAnswer(line, square)
	crossings := 0
	for i, swing := range swings {
		if !isPlain(swing) {
			return 0, impl.ErrState
		}
		if i > 0 && signOf(swing)*signOf(swings[i-1]) == -1 {
			crossings++
		}
	}
	return crossings, 0
}

func wantTwist(line []impl.Disc, square float32) float32 {
	_, twists := wantAnswer(line, square)
	return twists[len(line)-1]
}

// wantLone returns the lone speed that is found by halving as often as told.
func wantLone(line []impl.Disc, low, high float32, times int) (float32, int) {
	start := signOf(wantTwist(line, low))
	if start*signOf(wantTwist(line, high)) != -1 {
		return 0, impl.ErrNotFound
	}
	return wantHalved(low, high, 0, times, func(square float32) float32 {
		if signOf(wantTwist(line, square)) == start {
			return 0
		}
		return 1
	}), 0
}

// lineCase is a line with squares of speeds.
type lineCase struct {
	line      []impl.Disc
	low, high float32
}

// someSpeeds have squares between which there often is a lone speed.
func someSpeeds(count int) []lineCase {
	p := picker(136)
	var list []lineCase
	for _, line := range someLines(count) {
		low, high := p.between(1.0/1024, 1024), p.between(1.0/1024, plainest)
		switch p.below(8) {
		case 0:
			low = oneOf(&p, []float32{tiny, 20 * tiny, leastDivisor})
		case 1:
			high = plainest
		case 2:
			high = above(low)
		}
		if low > high {
			low, high = high, low
		}
		list = append(list, lineCase{line, low, high})
	}
	return list
}
