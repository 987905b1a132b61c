package tests

import (
	"math"
	"slices"
	"strings"
	"testing"

	"loop.example/g01344/impl"
)

// tension picks what a belt may be tight by, often a limit.
func (p *picker) tension() float32 {
	switch p.below(8) {
	case 0:
		return 0
	case 1:
		return negZero
	case 2:
		return plainest
	case 3:
		return float32(p.below(20)) * tiny
	}
	return float32(math.Abs(float64(p.plain())))
}

func TestLimitsOfBelts(t *testing.T) {
	expect(t, "limits", show(impl.MaxBelts, impl.MaxApart), show(12, 65536))
}

func TestValidBelt(t *testing.T) {
	for _, b := range someBelts(1000) {
		if !impl.ValidBelt(b) {
			t.Errorf("%+v is not valid", b)
		}
	}
	for _, b := range badBelts() {
		if impl.ValidBelt(b) {
			t.Errorf("%+v is valid", b)
		}
	}
}

func TestSameBelt(t *testing.T) {
	list := []impl.Belt{exampleBelt(), crossed(exampleBelt()), {}, {Crossed: true}}
	for _, x := range []float32{negZero, tiny, above(4), inf, -inf, nan} {
		list = append(list, beltOf(x, 2, 16, 0.25), beltOf(4, x, 16, 0.25), beltOf(4, 2, x, 0.25), beltOf(4, 2, 16, x))
	}
	list = append(list, beltOf(4, 2, 16, 0), beltOf(2, 4, 16, 0.25))
	for i, a := range list {
		for j, b := range list {
			if impl.SameBelt(a, b) != (i == j) {
				t.Errorf("SameBelt of %+v and %+v is %v", a, b, i != j)
			}
		}
	}
	if !impl.SameBelt(beltOf(nan, otherNaN, nan, otherNaN), beltOf(otherNaN, nan, nan, nan)) {
		t.Errorf("NaN of other bits is not the same")
	}
}

func TestExampleOfBelts(t *testing.T) {
	open, cross := exampleBelt(), crossed(exampleBelt())
	length, one := impl.LengthOf(open)
	wrap, two := impl.WrapOf(open)
	expect(t, "open", show(length, one, wrap, two), show(51.09375, 0, 2.890625, 0))
	length, one = impl.LengthOf(cross)
	wrap, two = impl.WrapOf(cross)
	expect(t, "crossed", show(length, one, wrap, two), show(53.09375, 0, 3.890625, 0))
}

func TestMeasuresOfBelts(t *testing.T) {
	for _, b := range someBelts(5000) {
		length, one := impl.LengthOf(b)
		wrap, two := impl.WrapOf(b)
		grip, three := impl.GripOf(b)
		expect(t, "LengthOf", show(length, one), show(wantLength(b), 0))
		expect(t, "WrapOf", show(wrap, two), show(wantWrap(b), 0))
		expect(t, "GripOf", show(grip, three), show(wantGrip(b), 0))
	}
}

func other(t *testing.T, name string, want, otherwise func(impl.Belt) float32) {
	t.Helper()
	tellsApart(t, name, someBelts(5000), want, otherwise)
}

func TestRoundingsOfBelts(t *testing.T) {
	round := func(b impl.Belt) float32 { return product(3.140625, sum(b.A, b.B)) }
	other(t, "length from right to left", wantLength, func(b impl.Belt) float32 {
		reach := wantReach(b)
		return sum(product(2, b.Apart), sum(round(b), quotient(product(reach, reach), b.Apart)))
	})
	other(t, "length with the reach divided first", wantLength, func(b impl.Belt) float32 {
		reach := wantReach(b)
		return sum(sum(product(2, b.Apart), round(b)), product(reach, quotient(reach, b.Apart)))
	})
	other(t, "length with a product that is not rounded", wantLength, func(b impl.Belt) float32 {
		reach := wantReach(b)
		fused := rounds(2*float64(b.Apart) + 3.140625*float64(sum(b.A, b.B)))
		return sum(fused, quotient(product(reach, reach), b.Apart))
	})
	other(t, "length with pi", wantLength, func(b impl.Belt) float32 {
		reach := wantReach(b)
		return sum(sum(product(2, b.Apart), product(math.Pi, sum(b.A, b.B))), quotient(product(reach, reach), b.Apart))
	})
	other(t, "grip with another power", wantGrip, func(b impl.Belt) float32 {
		z := sum(1, quotient(product(b.Grip, wantWrap(b)), 16))
		power := z
		for range 15 {
			power = product(power, z)
		}
		return power
	})
	other(t, "grip that is rounded at last", wantGrip, func(b impl.Belt) float32 {
		return float32(math.Pow(1+float64(b.Grip)*float64(wantWrap(b))/16, 16))
	})
	other(t, "pull that is factored", func(b impl.Belt) float32 { return wantPull(b, 100) }, func(b impl.Belt) float32 {
		return product(100, difference(1, quotient(1, wantGrip(b))))
	})
	other(t, "speed that is divided last", func(b impl.Belt) float32 { return wantSpeed(b, 100, 0.3) }, func(b impl.Belt) float32 {
		out := product(quotient(product(100, b.A), b.B), difference(1, 0.3))
		if b.Crossed {
			return -out
		}
		return out
	})
}

func TestPullAndTorque(t *testing.T) {
	p := picker(22)
	for _, b := range someBelts(3000) {
		tight := p.tension()
		pull, one := impl.PullOf(b, tight)
		torque, two := impl.TorqueOf(b, tight)
		expect(t, "PullOf", show(pull, one), show(wantPull(b, tight), 0))
		expect(t, "TorqueOf", show(torque, two), show(wantTorque(b, tight), 0))
	}
	pull, one := impl.PullOf(exampleBelt(), negZero)
	torque, two := impl.TorqueOf(exampleBelt(), negZero)
	expect(t, "-0", show(pull, one, torque, two), show(0, 0, 0, 0))
}

func TestSlipFor(t *testing.T) {
	p := picker(23)
	for _, b := range someBelts(3000) {
		tight := p.tension()
		most := wantTorque(b, tight)
		for _, torque := range []float32{0, negZero, tiny, -tiny, p.plain(), most, -most, below(most), above(most), most / 2, -most / 3} {
			if !isPlain(torque) {
				continue
			}
			slip, code := impl.SlipFor(b, tight, torque)
			expect(t, "SlipFor", show(slip, code), show(wantSlip(b, tight, torque), 0))
			if !isPart(slip) {
				t.Errorf("SlipFor %+v, %v, %v is no part: %v", b, tight, torque, slip)
			}
		}
	}
}

func TestSlipAtLimits(t *testing.T) {
	b := beltOf(4, 2, 16, 0.25)
	pull := wantPull(b, 100)
	cases := []struct {
		torque, slip float32
	}{
		{0, 0}, {negZero, 0}, {tiny, 0}, {-2 * tiny, 0},
		{4 * pull, 1}, {-4 * pull, 1}, {plainest, 1}, {-plainest, 1},
		{4 * below(pull), quotient(quotient(below(pull), pull), 64)},
		{-4 * below(pull), quotient(quotient(below(pull), pull), 64)},
	}
	for _, c := range cases {
		slip, code := impl.SlipFor(b, 100, c.torque)
		expect(t, "SlipFor "+show(c.torque), show(slip, code), show(c.slip, 0))
	}
	// A load of nothing does not slip, even where nothing pulls.
	none, one := impl.SlipFor(b, 0, negZero)
	all, two := impl.SlipFor(b, 0, 1)
	expect(t, "nothing pulls", show(none, one, all, two), show(0, 0, 1, 0))
}

func TestSpeedOut(t *testing.T) {
	p := picker(24)
	for _, b := range someBelts(3000) {
		for _, speed := range []float32{0, negZero, tiny, -3 * tiny, plainest, -plainest, p.plain()} {
			for _, slip := range []float32{0, negZero, tiny, 1, below(1), p.loss()} {
				out, code := impl.SpeedOut(b, speed, slip)
				expect(t, "SpeedOut", show(out, code), show(wantSpeed(b, speed, slip), 0))
			}
		}
	}
	cases := []struct {
		belt              impl.Belt
		speed, slip, want float32
	}{
		{exampleBelt(), 10, 0, 20}, {exampleBelt(), 10, 0.5, 10}, {exampleBelt(), 10, 1, 0}, {exampleBelt(), negZero, 0, negZero},
		{crossed(exampleBelt()), 10, 0, -20}, {crossed(exampleBelt()), 10, 1, negZero}, {crossed(exampleBelt()), 0, 0, negZero},
		{crossed(exampleBelt()), negZero, 0, 0}, {crossed(exampleBelt()), -10, 0.25, 15},
	}
	for _, c := range cases {
		out, code := impl.SpeedOut(c.belt, c.speed, c.slip)
		expect(t, "SpeedOut", show(out, code), show(c.want, 0))
	}
}

func TestBeltsNeeded(t *testing.T) {
	p := picker(25)
	for _, b := range someBelts(2000) {
		tight := p.tension()
		one := wantTorque(b, tight)
		for number := 1; number <= 13; number++ {
			limit := product(one, float32(number))
			for _, torque := range []float32{limit, -limit, above(limit), below(limit), -below(limit)} {
				if isPlain(torque) {
					expectBelts(t, b, tight, torque)
				}
			}
		}
		expectBelts(t, b, tight, p.plain())
		expectBelts(t, b, tight, 0)
		expectBelts(t, b, tight, negZero)
	}
}

func expectBelts(t *testing.T, b impl.Belt, tight, torque float32) {
	t.Helper()
	want, wantCode := 0, impl.ErrNotFound
	for number := 12; number >= 1; number-- {
		if product(wantTorque(b, tight), float32(number)) >= float32(math.Abs(float64(torque))) {
			want, wantCode = number, 0
		}
	}
	number, code := impl.BeltsNeeded(b, tight, torque)
	expect(t, "BeltsNeeded", show(number, code), show(want, wantCode))
}

func TestBeltsNeededAtLimits(t *testing.T) {
	b := beltOf(4, 2, 16, 0.25)
	one := wantTorque(b, 100)
	cases := []struct {
		torque       float32
		number, code int
	}{
		{0, 1, 0}, {one, 1, 0}, {-one, 1, 0}, {above(one), 2, 0}, {product(one, 12), 12, 0}, {-product(one, 12), 12, 0},
		{above(product(one, 12)), 0, impl.ErrNotFound}, {-plainest, 0, impl.ErrNotFound},
	}
	for _, c := range cases {
		number, code := impl.BeltsNeeded(b, 100, c.torque)
		expect(t, "BeltsNeeded "+show(c.torque), show(number, code), show(c.number, c.code))
	}
	number, code := impl.BeltsNeeded(b, 0, 0)
	expect(t, "no tension", show(number, code), show(1, 0))
	number, code = impl.BeltsNeeded(b, 0, tiny)
	expect(t, "no tension, but a torque", show(number, code), show(0, impl.ErrNotFound))
}

func TestStretchedLength(t *testing.T) {
	p := picker(26)
	for _, b := range someBelts(3000) {
		tight := p.tension()
		for _, stiff := range []float32{1, above(1), plainest, below(plainest), p.between(1, plainest)} {
			length, code := impl.StretchedLength(b, tight, stiff)
			want := product(wantLength(b), sum(1, quotient(tight, stiff)))
			expect(t, "StretchedLength", show(length, code), show(want, 0))
		}
	}
	length, code := impl.StretchedLength(exampleBelt(), 0, 1)
	expect(t, "no tension", show(length, code), show(51.09375, 0))
}

// lengthsFor picks lengths that a belt may be asked for: those of other belts,
// and limits of what can be found.
func (p *picker) lengthsFor(least, most float32) []float32 {
	return []float32{0, negZero, tiny, 1, plainest, least, above(least), below(least), most, above(most), below(most), p.between(least, most), p.between(least, most)}
}

func TestApartFor(t *testing.T) {
	p := picker(27)
	for _, b := range someBelts(500) {
		lengthWith := withApart(b)
		for _, length := range append(p.lengthsFor(lengthWith(sum(b.A, b.B)), lengthWith(greatestApart)), wantLength(b)) {
			want, wantCode := wantApart(b, length, 40)
			for _, own := range []float32{b.Apart, 0, -1, nan, inf, above(greatestApart)} {
				b.Apart = own
				apart, code := impl.ApartFor(b, length)
				expect(t, "ApartFor", show(apart, code), show(want, wantCode))
			}
		}
	}
}

func TestApartForAtLimits(t *testing.T) {
	b := beltOf(2, 2, 0, 0)
	least, most := withApart(b)(4), withApart(b)(greatestApart)
	cases := []struct {
		length, apart, near float32
		code                int
	}{
		{least, 4, 0.000001, 0}, {below(least), 0, 0, impl.ErrNotFound}, {0, 0, 0, impl.ErrNotFound}, {negZero, 0, 0, impl.ErrNotFound},
		{28.5625, 8, 0, 0}, {most, greatestApart, 0, 0}, {above(most), 0, 0, impl.ErrNotFound}, {plainest, 0, 0, impl.ErrNotFound},
	}
	for _, c := range cases {
		apart, code := impl.ApartFor(b, c.length)
		want, _ := wantApart(b, c.length, 40)
		expect(t, "ApartFor "+show(c.length), show(apart, code), show(want, c.code))
		expectNear(t, "ApartFor "+show(c.length), apart, c.apart, c.near)
	}
}

// 40 halvings leave more than one number between low and high where the wheels
// are small, so that one more or less is seen.
func TestNumberOfHalvings(t *testing.T) {
	b := beltOf(leastRadius, leastRadius, 0, 0)
	fewer, more := 0, 0
	for i := range 100 {
		length := float32(0.65) + float32(i)/512
		want, _ := wantApart(b, length, 40)
		less, _ := wantApart(b, length, 39)
		greater, _ := wantApart(b, length, 41)
		apart, code := impl.ApartFor(b, length)
		expect(t, "ApartFor", show(apart, code), show(want, 0))
		if less != want {
			fewer++
		}
		if greater != want {
			more++
		}
	}
	if fewer == 0 || more == 0 {
		t.Errorf("no length tells 40 halvings from 39 (%v) and from 41 (%v)", fewer, more)
	}
}

func TestRadiusFor(t *testing.T) {
	p := picker(28)
	for _, b := range someBelts(500) {
		for _, a := range []float32{b.A, b.B, leastRadius, greatestRadius, p.radius()} {
			lengthWith := withRadii(b, a)
			high := min(greatestRadius, max(leastRadius, difference(b.Apart, a)))
			for _, length := range append(p.lengthsFor(lengthWith(leastRadius), lengthWith(high)), wantLength(b)) {
				want, wantCode := wantRadius(b, a, length, 40)
				radius, code := impl.RadiusFor(b, a, length)
				expect(t, "RadiusFor", show(radius, code), show(want, wantCode))
			}
		}
	}
}

func TestRadiusForAtLimits(t *testing.T) {
	b := beltOf(4, 2, 16, 0.25)
	least, most := withRadii(b, 4)(leastRadius), withRadii(b, 4)(12)
	narrow := beltOf(4, 2, 8, 0.25)
	cases := []struct {
		belt         impl.Belt
		a, length    float32
		radius, near float32
		code         int
	}{
		{b, 4, 51.09375, 2, 0.000001, 0},
		{b, 4, least, leastRadius, 0.00001, 0},
		{b, 4, below(least), 0, 0, impl.ErrNotFound},
		{b, 4, 0, 0, 0, impl.ErrNotFound},
		{b, 4, most, 12, 0, 0},
		{b, 4, plainest, 12, 0.00001, 0},
		{b, greatestRadius, 51.09375, 0, 0, impl.ErrNotFound},
		// The greatest radius is the least one here.
		{narrow, 8 - leastRadius, 1000, leastRadius, 0, 0},
		{narrow, above(8 - leastRadius), 1000, 0, 0, impl.ErrNotFound},
		{narrow, 8, 1000, 0, 0, impl.ErrNotFound},
		{beltOf(4, 2, greatestApart, 0), 4, plainest, greatestRadius, 0.001, 0},
	}
	for _, c := range cases {
		radius, code := impl.RadiusFor(c.belt, c.a, c.length)
		want, _ := wantRadius(c.belt, c.a, c.length, 40)
		expect(t, "RadiusFor "+show(c.belt, c.a, c.length), show(radius, code), show(want, c.code))
		expectNear(t, "RadiusFor "+show(c.belt, c.a, c.length), radius, c.radius, c.near)
	}
}

func expectNear(t *testing.T, name string, got, want, near float32) {
	t.Helper()
	if !(math.Abs(float64(got)-float64(want)) <= float64(near)) {
		t.Errorf("%s: got %v, which is not near %v", name, got, want)
	}
}

// Where Apart - a is rounded up, the last radii that are tried are of no
// valid belt; their lengths follow the formula all the same.
func TestRadiusForBeyondValidBelts(t *testing.T) {
	p := picker(29)
	count := 0
	for range 20000 {
		a, apart := p.between(0.1, 4), p.between(16, 64)
		b := impl.Belt{A: 1, B: 1, Apart: apart, Crossed: p.below(2) == 0}
		high := difference(apart, a)
		if impl.ValidBelt(impl.Belt{A: a, B: high, Apart: apart}) {
			continue
		}
		lengthWith := withRadii(b, a)
		want, _ := wantRadius(b, a, below(lengthWith(high)), 40)
		seen := wantHalved(leastRadius, high, below(lengthWith(high)), 40, func(radius float32) float32 {
			length, _ := impl.LengthOf(impl.Belt{A: a, B: radius, Apart: apart, Crossed: b.Crossed})
			return length
		})
		if seen != want {
			count++
		}
		radius, code := impl.RadiusFor(b, a, below(lengthWith(high)))
		expect(t, "RadiusFor", show(radius, code), show(want, 0))
	}
	if count == 0 {
		t.Errorf("no belt tells the formula from LengthOf")
	}
}

func TestConeFor(t *testing.T) {
	p := picker(30)
	for _, b := range someBelts(500) {
		radii := []float32{b.A}
		for range p.below(12) {
			radii = append(radii, p.between(leastRadius, max(b.A, b.B)))
		}
		var want []float32
		wantCode := 0
		for _, a := range radii {
			radius, code := wantRadius(b, a, wantLength(b), 40)
			if code != 0 {
				want, wantCode = nil, code
				break
			}
			want = append(want, radius)
		}
		cone, code := impl.ConeFor(b, radii)
		expect(t, "ConeFor", show(cone, code), show(want, wantCode))
	}
}

func TestErrorsOfCones(t *testing.T) {
	b := exampleBelt()
	fits, tooGreat := float32(4), greatestRadius
	twelve := slices.Repeat([]float32{fits}, 12)
	cases := []struct {
		belt  impl.Belt
		radii []float32
		code  int
	}{
		{b, []float32{}, 0}, {b, nil, 0}, {b, twelve, 0}, {b, append(twelve[:12:12], fits), impl.ErrLimit},
		{b, slices.Repeat([]float32{nan}, 13), impl.ErrLimit}, {beltOf(4, 2, 5, 0.25), slices.Repeat([]float32{nan}, 13), impl.ErrInvalid},
		{b, []float32{fits, tooGreat, nan}, impl.ErrNotFound}, {b, []float32{fits, nan, tooGreat}, impl.ErrRange},
		{b, []float32{tooGreat}, impl.ErrNotFound}, {b, []float32{below(leastRadius)}, impl.ErrRange}, {b, []float32{above(greatestRadius)}, impl.ErrRange},
		{b, append(twelve[:11:11], 0), impl.ErrRange}, {beltOf(4, 2, 5, 0.25), nil, impl.ErrInvalid},
	}
	for _, c := range cases {
		cone, code := impl.ConeFor(c.belt, c.radii)
		expect(t, "ConeFor "+show(c.radii), show(code), show(c.code))
		wanted := len(c.radii)
		if c.code != 0 {
			wanted = 0
		}
		expect(t, "steps of "+show(c.radii), show(len(cone)), show(wanted))
	}
}

func TestSpeedsThrough(t *testing.T) {
	p := picker(31)
	for range 1000 {
		list := make([]impl.Belt, p.below(13))
		for i := range list {
			list[i] = p.belt()
		}
		speed := p.plain()
		want := []float32{speed}
		for i, b := range list {
			want = append(want, wantSpeed(b, want[i], 0))
		}
		speeds, code := impl.SpeedsThrough(list, speed)
		expect(t, "SpeedsThrough", show(speeds, code), show(want, 0))
	}
	speeds, code := impl.SpeedsThrough([]impl.Belt{exampleBelt(), crossed(exampleBelt())}, 3)
	expect(t, "two belts", show(speeds, code), show([]float32{3, 6, -12}, 0))
	speeds, code = impl.SpeedsThrough([]impl.Belt{crossed(exampleBelt()), crossed(exampleBelt())}, 0)
	expect(t, "0", show(speeds, code), show([]float32{0, negZero, 0}, 0))
	speeds, code = impl.SpeedsThrough(nil, negZero)
	expect(t, "no belts", show(speeds, code), show([]float32{negZero}, 0))
}

func TestGreatAndSmallSpeedsThrough(t *testing.T) {
	fast := crossed(beltOf(greatestRadius, leastRadius, 2048, 0))
	speeds, code := impl.SpeedsThrough(slices.Repeat([]impl.Belt{fast}, 12), 1048576)
	want := []float32{1 << 20, -1 << 34, 1 << 48, -1 << 62, 1 << 76, -1 << 90, 1 << 104, -1 << 118, inf, -inf, inf, -inf, inf}
	expect(t, "fast", show(speeds, code), show(want, 0))
	slow := crossed(beltOf(leastRadius, greatestRadius, 2048, 0))
	speeds, code = impl.SpeedsThrough(slices.Repeat([]impl.Belt{slow}, 3), 1<<14*tiny)
	expect(t, "slow", show(speeds, code), show([]float32{1 << 14 * tiny, -tiny, 0, negZero}, 0))
}

func TestErrorsOfSpeedsThrough(t *testing.T) {
	good, bad := exampleBelt(), beltOf(4, 2, 5, 0.25)
	thirteen := slices.Repeat([]impl.Belt{good}, 13)
	cases := []struct {
		list  []impl.Belt
		speed float32
		code  int
	}{
		{append(thirteen[:12:12], bad), nan, impl.ErrInvalid}, {[]impl.Belt{bad, good}, 1, impl.ErrInvalid}, {[]impl.Belt{good, bad}, 1, impl.ErrInvalid},
		{thirteen, nan, impl.ErrRange}, {nil, inf, impl.ErrRange}, {thirteen[:1], above(plainest), impl.ErrRange}, {thirteen[:1], below(-plainest), impl.ErrRange},
		{thirteen, 1, impl.ErrLimit}, {thirteen[:12], 1, 0}, {thirteen[:1], plainest, 0}, {thirteen[:1], -plainest, 0},
	}
	for i, c := range cases {
		speeds, code := impl.SpeedsThrough(c.list, c.speed)
		expect(t, "case "+show(i), show(code), show(c.code))
		if c.code != 0 && len(speeds) != 0 {
			t.Errorf("speeds beside the error %v: %v", code, speeds)
		}
	}
}

func TestLongestBelt(t *testing.T) {
	p := picker(32)
	for range 2000 {
		list := make([]impl.Belt, 1+p.below(20))
		some := []impl.Belt{p.belt(), p.belt(), p.belt()}
		for i := range list {
			list[i] = some[p.below(len(some))]
		}
		want := 0
		for i, b := range list {
			if wantLength(b) > wantLength(list[want]) {
				want = i
			}
		}
		index, length, code := impl.LongestBelt(list)
		expect(t, "LongestBelt", show(index, length, code), show(want, wantLength(list[want]), 0))
	}
}

func TestPlacesOfTheLongestBelt(t *testing.T) {
	long, short := beltOf(4, 2, 17, 0), beltOf(4, 2, 16, 0)
	for count := 1; count <= 20; count++ {
		for first := range count {
			list := slices.Repeat([]impl.Belt{short}, count)
			list[first] = long
			expectLongest(t, list, first)
			// A belt that is turned is as long.
			list[count-1] = beltOf(2, 4, 17, 0)
			expectLongest(t, list, first)
		}
		expectLongest(t, slices.Repeat([]impl.Belt{short}, count), 0)
	}
}

func expectLongest(t *testing.T, list []impl.Belt, want int) {
	t.Helper()
	index, length, code := impl.LongestBelt(list)
	expect(t, "LongestBelt of "+show(len(list)), show(index, length, code), show(want, wantLength(list[want]), 0))
}

func TestErrorsOfTheLongestBelt(t *testing.T) {
	good := slices.Repeat([]impl.Belt{exampleBelt()}, 9)
	for _, list := range [][]impl.Belt{nil, {}} {
		index, length, code := impl.LongestBelt(list)
		expect(t, "no belts", show(index, length, code), show(0, 0, impl.ErrNotFound))
	}
	for i := range good {
		for _, bad := range badBelts() {
			list := slices.Clone(good)
			list[i] = bad
			index, length, code := impl.LongestBelt(list)
			expect(t, "a bad belt", show(index, length, code), show(0, 0, impl.ErrInvalid))
		}
	}
}

func TestTurnBelt(t *testing.T) {
	for _, b := range someBelts(500) {
		want := impl.Belt{A: b.B, B: b.A, Apart: b.Apart, Grip: b.Grip, Crossed: b.Crossed}
		turned, code := impl.TurnBelt(b)
		expect(t, "TurnBelt", show(turned, code), show(want, 0))
	}
}

func TestErrorsOfBadBelts(t *testing.T) {
	for _, b := range badBelts() {
		expectInvalidBelt(t, b, 1)
		// ErrInvalid is found before what the other errors stand for.
		expectInvalidBelt(t, b, nan)
		expectInvalidBelt(t, b, -1)
	}
}

func expectInvalidBelt(t *testing.T, b impl.Belt, x float32) {
	t.Helper()
	length, c1 := impl.LengthOf(b)
	wrap, c2 := impl.WrapOf(b)
	grip, c3 := impl.GripOf(b)
	pull, c4 := impl.PullOf(b, x)
	torque, c5 := impl.TorqueOf(b, x)
	slip, c6 := impl.SlipFor(b, x, x)
	speed, c7 := impl.SpeedOut(b, x, x)
	number, c8 := impl.BeltsNeeded(b, x, x)
	stretched, c9 := impl.StretchedLength(b, x, x)
	radius, c10 := impl.RadiusFor(b, x, x)
	turned, c11 := impl.TurnBelt(b)
	expect(t, "codes", show(c1, c2, c3, c4, c5, c6, c7, c8, c9, c10, c11), show(1, 1, 1, 1, 1, 1, 1, 1, 1, 1, 1))
	expect(t, "zero values", show(length, wrap, grip, pull, torque, slip, speed, number, stretched, radius, turned), show(0, 0, 0, 0, 0, 0, 0, 0, 0, 0, impl.Belt{}))
	expect(t, "text", impl.BeltText(b), "")
	b.Apart = sum(b.A, b.B)
	if !impl.ValidBelt(b) {
		apart, code := impl.ApartFor(b, x)
		expect(t, "ApartFor", show(apart, code), show(0, impl.ErrInvalid))
	}
}

func TestRangesOfBelts(t *testing.T) {
	b := exampleBelt()
	for _, x := range notSizes {
		pull, c1 := impl.PullOf(b, x)
		torque, c2 := impl.TorqueOf(b, x)
		slip, c3 := impl.SlipFor(b, x, 0)
		number, c4 := impl.BeltsNeeded(b, x, 0)
		long, c5 := impl.StretchedLength(b, x, 1)
		apart, c6 := impl.ApartFor(b, x)
		radius, c7 := impl.RadiusFor(b, 4, x)
		// ErrRange is found before ErrNotFound.
		none, c8 := impl.RadiusFor(b, 1024, x)
		expect(t, "codes", show(c1, c2, c3, c4, c5, c6, c7, c8), show(2, 2, 2, 2, 2, 2, 2, 2))
		expect(t, "zero values", show(pull, torque, slip, number, long, apart, radius, none), show(0, 0, 0, 0, 0, 0, 0, 0))
	}
	for _, x := range notPlain {
		slip, c1 := impl.SlipFor(b, 1, x)
		speed, c2 := impl.SpeedOut(b, x, 0)
		number, c3 := impl.BeltsNeeded(b, 0, x)
		expect(t, "not plain", show(slip, c1, speed, c2, number, c3), show(0, 2, 0, 2, 0, 2))
	}
	for _, x := range noParts {
		speed, code := impl.SpeedOut(b, 1, x)
		expect(t, "no part", show(speed, code), show(0, 2))
	}
	for _, x := range []float32{below(1), above(plainest), 0, negZero, 0.5, -1, inf, -inf, nan, otherNaN} {
		length, code := impl.StretchedLength(b, 1, x)
		expect(t, "stiff", show(length, code), show(0, 2))
	}
	for _, x := range []float32{below(leastRadius), above(greatestRadius), 0, negZero, -4, inf, -inf, nan, otherNaN} {
		radius, code := impl.RadiusFor(b, x, 51)
		none, more := impl.RadiusFor(b, x, 0)
		expect(t, "radius", show(radius, code, none, more), show(0, 2, 0, 2))
	}
}

func TestReachedRangesOfBelts(t *testing.T) {
	b := exampleBelt()
	for _, x := range []float32{0, negZero, tiny, plainest} {
		_, c1 := impl.PullOf(b, x)
		_, c2 := impl.TorqueOf(b, x)
		_, c3 := impl.SlipFor(b, x, -plainest)
		_, c4 := impl.SlipFor(b, x, plainest)
		_, c5 := impl.BeltsNeeded(b, x, 0)
		_, c6 := impl.StretchedLength(b, x, 1)
		_, c7 := impl.StretchedLength(b, x, plainest)
		_, c8 := impl.RadiusFor(beltOf(4, 2, greatestApart, 0), leastRadius, 200000)
		_, c9 := impl.RadiusFor(beltOf(4, 2, greatestApart, 0), greatestRadius, 200000)
		expect(t, "codes", show(c1, c2, c3, c4, c5, c6, c7, c8, c9), show(0, 0, 0, 0, 0, 0, 0, 0, 0))
	}
}

func TestBeltTexts(t *testing.T) {
	cases := []struct {
		belt impl.Belt
		text string
	}{
		{exampleBelt(), "40800000 40000000 41800000 3e800000 open"},
		{crossed(exampleBelt()), "40800000 40000000 41800000 3e800000 crossed"},
		{beltOf(leastRadius, greatestRadius, greatestApart, negZero), "3d800000 44800000 47800000 80000000 open"},
		{crossed(beltOf(2, 2, 4, 2)), "40000000 40000000 40800000 40000000 crossed"},
		{beltOf(2, 2, 4, 0), "40000000 40000000 40800000 00000000 open"},
	}
	for _, c := range cases {
		expect(t, "BeltText", impl.BeltText(c.belt), c.text)
		read, code := impl.ReadBelt(c.text)
		expect(t, "ReadBelt", show(read, code), show(c.belt, 0))
	}
	for _, b := range someBelts(1000) {
		read, code := impl.ReadBelt(impl.BeltText(b))
		if code != 0 || !impl.SameBelt(read, b) {
			t.Errorf("%+v is read as %+v, %v", b, read, code)
		}
	}
}

func TestTextsOfNoBelt(t *testing.T) {
	texts := []string{
		"", " ", "    ", "open", "crossed", "40800000 40000000 41800000 3e800000", "40800000 40000000 41800000 3e800000 ",
		"40800000 40000000 41800000 open", "40800000 40000000 41800000 3e800000 closed", "40800000 40000000 41800000 3e800000 Open",
		"40800000 40000000 41800000 3e800000 OPEN", "40800000 40000000 41800000 3e800000 crossed ", " 40800000 40000000 41800000 3e800000 open",
		"40800000  40000000 41800000 3e800000 open", "40800000\t40000000 41800000 3e800000 open", "40800000 40000000 41800000 3e800000 open\n",
		"40800000 40000000 41800000 3e800000 open open", "40800000 40000000 41800000 3e800000 crossed open", "40800000 40000000 41800000 3E800000 open",
		"4080000 40000000 41800000 3e800000 open", "040800000 40000000 41800000 3e800000 open", "4 2 16 0.25 open", "40800000,40000000,41800000,3e800000,open",
		"7fc00000 40000000 41800000 3e800000 open", "40800000 40000000 41800000 7fc00000 open", "40800000 40000000 7f800000 3e800000 open",
		"40800000 40000000 40a00000 3e800000 open", "40800000 40000000 40bfffff 3e800000 crossed", "3d7fffff 40000000 41800000 3e800000 open",
		"40800000 44800001 47800000 3e800000 open", "40800000 40000000 47800001 3e800000 open", "40800000 40000000 41800000 80000001 open",
		"40800000 40000000 41800000 40000001 open", "c0800000 40000000 41800000 3e800000 open", "40800000 40000000 41800000 3e800000 o\xffen",
		strings.Repeat(" ", 1000000), strings.Repeat("0", 1000000), strings.Repeat("40800000 ", 100000),
		"40800000 40000000 41800000 3e800000 open" + strings.Repeat(" ", 1000000),
	}
	for _, text := range texts {
		read, code := impl.ReadBelt(text)
		if read != (impl.Belt{}) || code != impl.ErrSyntax {
			t.Errorf("ReadBelt of %.60q: got %+v %v", text, read, code)
		}
	}
}
