package tests

import (
	"math"
	"math/big"
	"slices"

	"loop.example/g01344/impl"
)

// Limits that the document gives no name.
const (
	leastTarget    = float32(1.0 / 1024)
	greatestTarget = float32(1024)
)

// notTargets are numbers that are neither targets nor fractions.
var notTargets = []float32{below(leastTarget), above(greatestTarget), 0, negZero, tiny, -tiny, -1, -leastTarget, plainest, inf, -inf, nan, otherNaN}

// notPlains are numbers that are not plain.
var notPlains = []float32{above(plainest), below(-plainest), inf, -inf, nan, otherNaN}

// exampleBox is that of the document.
func exampleBox() []int16 { return []int16{20, 30, 40, 60} }

// evenBox has wheels with equal distances, and so many equal quotients.
func evenBox(first, step int16, count int) []int16 {
	var box []int16
	for range count {
		box = append(box, first)
		first += step
	}
	return box
}

// box picks a box with so many wheels, often one with many equal quotients.
func (p *picker) box(count int) []int16 {
	unit := oneOf(p, []int16{1, 1, 2, 4, 5, 8})
	least := (5 + unit) / unit
	var box []int16
	for len(box) < count {
		teeth := unit * (least + int16(p.below(int(200/unit-least+1))))
		if !slices.Contains(box, teeth) {
			box = append(box, teeth)
		}
	}
	slices.Sort(box)
	return box
}

// limitBoxes are valid boxes at limits, and with equal quotients.
func limitBoxes() [][]int16 {
	return [][]int16{
		exampleBox(), {6, 7}, {6, 200}, {199, 200}, {8, 16, 128}, {6, 12, 24}, {6, 12, 200}, {6, 7, 199, 200}, {6, 12, 24, 48, 96, 192}, {25, 50, 100, 200},
		evenBox(6, 1, 24), evenBox(177, 1, 24), evenBox(20, 5, 24), evenBox(8, 8, 24), evenBox(6, 1, 23),
	}
}

// someBoxes are valid boxes of all sizes up to most wheels.
func someBoxes(count, most int) [][]int16 {
	p := picker(91)
	var list [][]int16
	for _, box := range limitBoxes() {
		if len(box) <= most {
			list = append(list, box)
		}
	}
	for len(list) < count {
		list = append(list, p.box(2+p.below(most-1)))
	}
	return list
}

// badBoxes are boxes that are not valid, each for one reason.
func badBoxes() [][]int16 {
	list := [][]int16{
		nil, {}, {6}, {20}, {200}, evenBox(6, 1, 25), evenBox(6, 1, 195), {20, 20}, {30, 20}, {20, 30, 30}, {20, 20, 30}, {20, 40, 30}, {30, 20, 40}, {60, 40, 30, 20},
		{20, 30, 40, 40}, {20, 30, 20, 40}, {6, 6}, {200, 200}, slices.Repeat([]int16{20}, 24),
	}
	for _, teeth := range []int16{5, 0, -1, -20, math.MinInt16} {
		list = append(list, []int16{teeth, 20}, []int16{teeth, 20, 30, 40}, append([]int16{teeth}, evenBox(6, 1, 23)...))
	}
	for _, teeth := range []int16{201, 202, 456, math.MaxInt16} {
		list = append(list, []int16{20, teeth}, []int16{20, 30, 40, teeth}, append(evenBox(6, 1, 23), teeth))
	}
	return list
}

// noWheels are indices that no wheel has, some of which would be those of
// wheels if they were cut short.
var noWheels = []int64{-1, -2, 24, 25, 200, 256, 257, 1 << 16, 1<<16 + 1, 1 << 32, 1<<32 + 1, math.MinInt64, math.MinInt64 + 1, math.MaxInt64}

func choiceOf(a, b, c, d int) impl.Choice {
	return impl.Choice{A: int16(a), B: int16(b), C: int16(c), D: int16(d)}
}

// wantPairs are all pairs of different wheels, in order.
func wantPairs(box []int16) [][2]int64 {
	var list [][2]int64
	for a := range box {
		for b := range box {
			if a != b {
				list = append(list, [2]int64{int64(a), int64(b)})
			}
		}
	}
	return list
}

// wantChoices are all choices of different wheels, in order.
func wantChoices(box []int16) []impl.Choice {
	var list []impl.Choice
	for _, p := range wantPairs(box) {
		for _, q := range wantPairs(box) {
			if !slices.Contains(p[:], q[0]) && !slices.Contains(p[:], q[1]) {
				list = append(list, choiceOf(int(p[0]), int(p[1]), int(q[0]), int(q[1])))
			}
		}
	}
	return list
}

// The following ones follow the document's words with wide numbers, each of
// which is rounded at once.

func wantOff(factor, target float32) float32 {
	return quotient(float32(math.Abs(float64(difference(factor, target)))), target)
}

func wantFactor(box []int16, pair [2]int64) float32 {
	return quotient(float32(box[pair[0]]), float32(box[pair[1]]))
}

func wantFactorOf(box []int16, c impl.Choice) float32 {
	return product(quotient(float32(box[c.A]), float32(box[c.B])), quotient(float32(box[c.C]), float32(box[c.D])))
}

// firstLeast returns the index of the first one of a list that is off least,
// and by how much it is.
func firstLeast[E any, N float32 | float64](list []E, off func(E) N) (int, N) {
	best, least := 0, off(list[0])
	for i, e := range list {
		if by := off(e); by < least {
			best, least = i, by
		}
	}
	return best, least
}

func wantBestPair(box []int16, target float32) ([2]int64, float32) {
	pairs := wantPairs(box)
	best, least := firstLeast(pairs, func(p [2]int64) float32 { return wantOff(wantFactor(box, p), target) })
	return pairs[best], least
}

// wantBest is the index of the best choice, and by how much it is off.
func wantBest(box []int16, target float32) (int, float32) {
	return firstLeast(wantChoices(box), func(c impl.Choice) float32 { return wantOff(wantFactorOf(box, c), target) })
}

func wantFactors(box []int16) []float32 {
	var list []float32
	for _, pair := range wantPairs(box) {
		if factor := wantFactor(box, pair); !slices.Contains(list, factor) {
			list = append(list, factor)
		}
	}
	slices.Sort(list)
	return list
}

// wantStep finds the widest step between factors if their quotient is as told.
func wantStep(list []float32, step func(greater, lesser float32) float32) (float32, float32) {
	at, least := firstLeast(list[:len(list)-1], func(lesser float32) float32 {
		return -step(list[slices.Index(list, lesser)+1], lesser)
	})
	return list[at], -least
}

// withWheel returns a box with a wheel more.
func withWheel(box []int16, teeth int16) []int16 {
	more := append(slices.Clone(box), teeth)
	slices.Sort(more)
	return more
}

// wantAdded are the wheels that can be added.
func wantAdded(box []int16) []int16 {
	return slices.DeleteFunc(evenBox(6, 1, 195), func(teeth int16) bool { return slices.Contains(box, teeth) })
}

func wantAddWheel(box []int16, target float32) (int16, float32) {
	wheels := wantAdded(box)
	best, least := firstLeast(wheels, func(teeth int16) float32 {
		_, off := wantBestPair(withWheel(box, teeth), target)
		return off
	})
	return wheels[best], least
}

// targetFor picks a target, often one that a box has, or nearly, or one that
// two factors are off as much.
func (p *picker) targetFor(box []int16) float32 {
	factors := wantFactors(box)
	target := oneOf(p, factors)
	switch p.below(10) {
	case 0:
		target = above(target)
	case 1:
		target = below(target)
	case 2, 3:
		at := p.below(len(factors) - 1)
		target = quotient(sum(factors[at], factors[at+1]), 2)
	case 4, 5:
		target = product(target, oneOf(p, factors))
	case 6:
		target = oneOf(p, []float32{leastTarget, above(leastTarget), below(greatestTarget), greatestTarget, 1})
	case 7:
		target = p.between(leastTarget, greatestTarget)
	case 8:
		target = p.between(0.25, 4)
	}
	return min(max(target, leastTarget), greatestTarget)
}

// boxCase is a box with a target.
type boxCase struct {
	box    []int16
	target float32
}

func someBoxCases(count, most int) []boxCase {
	p := picker(92)
	var list []boxCase
	for _, box := range someBoxes(count, most) {
		list = append(list, boxCase{box, p.targetFor(box)})
	}
	return list
}

// fractionOf is the fraction with this numerator and this denominator.
func fractionOf(num, den int64) impl.Fraction { return impl.Fraction{Num: num, Den: den} }

// exact is a narrow number without any rounding.
func exact(a float32) *big.Rat { return new(big.Rat).SetFloat64(float64(a)) }

// ratOf is a fraction without any rounding; nil if it has no denominator.
func ratOf(f impl.Fraction) *big.Rat {
	if f.Den == 0 {
		return nil
	}
	return big.NewRat(f.Num, f.Den)
}

// fractionFrom is a rational number in lowest terms.
func fractionFrom(a *big.Rat) impl.Fraction { return fractionOf(a.Num().Int64(), a.Denom().Int64()) }

// wholeOf is a rational number above 0, rounded down.
func wholeOf(a *big.Rat) *big.Int { return new(big.Int).Quo(a.Num(), a.Denom()) }

// distance is how far a number is from another one, without any rounding.
func distance(a, b *big.Rat) *big.Rat {
	d := new(big.Rat).Sub(a, b)
	return d.Abs(d)
}

// continued is the continued fraction with these quotients, made from the last
// one on.
func continued(quotients []*big.Int) *big.Rat {
	a := new(big.Rat)
	for i, q := range slices.Backward(quotients) {
		if i < len(quotients)-1 {
			a.Inv(a)
		}
		a.Add(a, new(big.Rat).SetInt(q))
	}
	return a
}

func wantConvergents(a float32, most int64) []impl.Fraction {
	var list []impl.Fraction
	var quotients []*big.Int
	for rest := exact(a); len(list) < 40; rest.Inv(rest) {
		q := wholeOf(rest)
		quotients = append(quotients, q)
		next := fractionFrom(continued(quotients))
		if next.Den > most {
			break
		}
		list = append(list, next)
		if rest.Sub(rest, new(big.Rat).SetInt(q)); rest.Sign() == 0 {
			break
		}
	}
	return list
}

// wantNearest tries all denominators from the greatest one on, so that the last
// one of equally near fractions has the least one, and the lesser numerator.
func wantNearest(a float32, most int64) impl.Fraction {
	var best impl.Fraction
	number, least := exact(a), big.NewRat(1<<20, 1)
	for den := most; den >= 1; den-- {
		under := wholeOf(new(big.Rat).Mul(number, big.NewRat(den, 1))).Int64()
		for num := under + 1; num >= under; num-- {
			if off := distance(number, big.NewRat(num, den)); off.Cmp(least) <= 0 {
				best, least = fractionOf(num, den), off
			}
		}
	}
	return best
}

// fractional picks a number that is a fraction, each one being as likely.
func (p *picker) fractional() float32 {
	least, greatest := math.Float32bits(leastTarget), math.Float32bits(greatestTarget)
	return math.Float32frombits(least + uint32(p.below(int(greatest-least+1))))
}

// betweenFractions picks a number in the middle of two fractions, or nearly,
// between which there is none with a denominator of at most most.
func (p *picker) betweenFractions(most int64) float32 {
	den := int64(1 + p.below(int(most)))
	num := int64(1 + p.below(int(2*den)))
	near := float64(num) / float64(den)
	for next := most; next >= 1; next-- {
		if (num*next+1)%den == 0 {
			near = (near + float64(num*next+1)/float64(den*next)) / 2
			break
		}
	}
	middle := rounds(near)
	middle = oneOf(p, []float32{middle, above(middle), below(middle)})
	return min(max(middle, leastTarget), greatestTarget)
}

// someNumbers are numbers that are fractions, the first ones at limits.
func someNumbers(count int) []float32 {
	p := picker(93)
	list := []float32{
		leastTarget, above(leastTarget), below(greatestTarget), greatestTarget, 1, above(1), below(1), 0.5, 0.75, 0.375, 1.5, 2.25, 33, 1023, 0.1,
		math.Phi, math.Pi, math.E, math.Sqrt2, 1 / math.Phi, 355.0 / 113, 1.0 / 3, 1.0 / 999, 1.0 / 1000, 1.0 / 1001, 999.0 / 1000, 1023.5, 1.0 / 512, 1.0 / 513,
	}
	for len(list) < count {
		switch p.below(4) {
		case 0:
			list = append(list, p.betweenFractions(1000))
		case 1:
			list = append(list, max(leastTarget, float32(1+p.below(1023))/float32(1+p.below(1000))))
		default:
			list = append(list, p.fractional())
		}
	}
	return list
}
