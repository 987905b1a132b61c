package tests

import (
	"math"

	"loop.example/g01344/impl"
)

func beltOf(a, b, apart, grip float32) impl.Belt {
	return impl.Belt{A: a, B: b, Apart: apart, Grip: grip}
}

func crossed(b impl.Belt) impl.Belt {
	b.Crossed = true
	return b
}

// exampleBelt is that of the document.
func exampleBelt() impl.Belt { return beltOf(4, 2, 16, 0.25) }

// Limits that the document gives no name.
const (
	leastRadius    = float32(1.0 / 16)
	greatestRadius = float32(1024)
	greatestApart  = float32(65536)
)

func (p *picker) radius() float32 {
	switch p.below(10) {
	case 0:
		return leastRadius
	case 1:
		return greatestRadius
	}
	return p.between(leastRadius, greatestRadius)
}

func (p *picker) grip() float32 {
	switch p.below(10) {
	case 0:
		return 0
	case 1:
		return negZero
	case 2:
		return 2
	case 3:
		return tiny
	}
	return float32(p.below(1<<24)) / (1 << 23)
}

// belt picks a valid belt, often one that reaches limits.
func (p *picker) belt() impl.Belt {
	b := impl.Belt{A: p.radius(), B: p.radius(), Grip: p.grip(), Crossed: p.below(2) == 0}
	if p.below(8) == 0 {
		b.B = b.A
	}
	nearest := sum(b.A, b.B)
	switch p.below(6) {
	case 0:
		b.Apart = nearest
	case 1:
		b.Apart = greatestApart
	case 2:
		b.Apart = p.between(nearest, 2*nearest)
	default:
		b.Apart = p.between(nearest, greatestApart)
	}
	return b
}

// someBelts are valid belts, the first ones at limits.
func someBelts(count int) []impl.Belt {
	p := picker(21)
	list := []impl.Belt{
		exampleBelt(),
		crossed(exampleBelt()),
		beltOf(2, 2, 8, 0),
		beltOf(leastRadius, leastRadius, 2*leastRadius, negZero),
		crossed(beltOf(leastRadius, leastRadius, 2*leastRadius, 2)),
		beltOf(greatestRadius, greatestRadius, 2*greatestRadius, 2),
		crossed(beltOf(greatestRadius, greatestRadius, greatestApart, tiny)),
		beltOf(leastRadius, greatestRadius, sum(leastRadius, greatestRadius), 1),
		crossed(beltOf(greatestRadius, leastRadius, sum(leastRadius, greatestRadius), 1)),
		beltOf(greatestRadius, leastRadius, greatestApart, 0.5),
		// The sum of both radii is rounded to 1025, which is less.
		beltOf(above(1), 1024, 1025, 0.25),
	}
	for len(list) < count {
		list = append(list, p.belt())
	}
	return list
}

// badBelts are belts that are not valid, each for one reason.
func badBelts() []impl.Belt {
	list := []impl.Belt{{}, {Crossed: true}}
	add := func(b impl.Belt) { list = append(list, b, crossed(b)) }
	for _, radius := range []float32{below(leastRadius), above(greatestRadius), 0, negZero, tiny, -4, inf, -inf, nan, otherNaN} {
		add(beltOf(radius, 2, 4096, 0.25))
		add(beltOf(4, radius, 4096, 0.25))
	}
	for _, apart := range []float32{below(6), above(greatestApart), 5, 0, negZero, -16, inf, -inf, nan, otherNaN} {
		add(beltOf(4, 2, apart, 0.25))
	}
	for _, grip := range []float32{-tiny, above(2), -1, inf, -inf, nan, otherNaN} {
		add(beltOf(4, 2, 16, grip))
	}
	return list
}

// The following ones follow the document's words with wide numbers, each of
// which is rounded at once.

func wantReach(b impl.Belt) float32 {
	if b.Crossed {
		return sum(b.A, b.B)
	}
	return float32(math.Abs(float64(difference(b.A, b.B))))
}

func wantLength(b impl.Belt) float32 {
	straightAndRound := sum(product(2, b.Apart), product(3.140625, sum(b.A, b.B)))
	return sum(straightAndRound, quotient(product(wantReach(b), wantReach(b)), b.Apart))
}

func wantWrap(b impl.Belt) float32 {
	slant := quotient(product(2, wantReach(b)), b.Apart)
	if b.Crossed {
		return sum(3.140625, slant)
	}
	return difference(3.140625, slant)
}

func wantGrip(b impl.Belt) float32 {
	z1 := sum(1, quotient(product(b.Grip, wantWrap(b)), 16))
	z2 := product(z1, z1)
	z4 := product(z2, z2)
	z8 := product(z4, z4)
	return product(z8, z8)
}

func wantPull(b impl.Belt, tight float32) float32 {
	return difference(tight, quotient(tight, wantGrip(b)))
}

func wantTorque(b impl.Belt, tight float32) float32 { return product(wantPull(b, tight), b.A) }

func wantSlip(b impl.Belt, tight, torque float32) float32 {
	pull, load := wantPull(b, tight), quotient(float32(math.Abs(float64(torque))), b.A)
	if load == 0 {
		return 0
	}
	if load >= pull {
		return 1
	}
	return quotient(quotient(load, pull), 64)
}

func wantSpeed(b impl.Belt, speed, slip float32) float32 {
	out := product(product(speed, quotient(b.A, b.B)), difference(1, slip))
	if b.Crossed {
		return -out
	}
	return out
}

// withApart and withRadii tell the lengths of belts that differ in one number.
func withApart(b impl.Belt) func(float32) float32 {
	return func(apart float32) float32 {
		b.Apart = apart
		return wantLength(b)
	}
}

func withRadii(b impl.Belt, a float32) func(float32) float32 {
	return func(radius float32) float32 {
		b.A, b.B = a, radius
		return wantLength(b)
	}
}

func wantApart(b impl.Belt, length float32, times int) (float32, int) {
	if !isSize(length) {
		return 0, impl.ErrRange
	}
	low := sum(b.A, b.B)
	lengthWith := withApart(b)
	if lengthWith(low) > length || lengthWith(greatestApart) < length {
		return 0, impl.ErrNotFound
	}
	return wantHalved(low, greatestApart, length, times, lengthWith), 0
}

func wantRadius(b impl.Belt, a, length float32, times int) (float32, int) {
	if !isSize(length) {
		return 0, impl.ErrRange
	}
	high := difference(b.Apart, a)
	if high > greatestRadius {
		high = greatestRadius
	}
	lengthWith := withRadii(b, a)
	if high < leastRadius || lengthWith(leastRadius) > length {
		return 0, impl.ErrNotFound
	}
	return wantHalved(leastRadius, high, length, times, lengthWith), 0
}
