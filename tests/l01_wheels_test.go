package tests

import (
	"math"
	"math/big"
	"strings"
	"testing"

	"loop.example/g01344/impl"
)

var notPlain = []float32{above(1048576), below(-1048576), inf, -inf, nan, otherNaN}

func TestCodeName(t *testing.T) {
	names := []string{"ok", "invalid", "range", "limit", "state", "syntax", "notfound", "budget", "proof"}
	for i, want := range names {
		expect(t, "CodeName", impl.CodeName(int64(i)), want)
	}
	for _, code := range []int64{-1, 9, math.MinInt64, math.MaxInt64, 1 << 32} {
		expect(t, "CodeName", impl.CodeName(code), "")
	}
	codes := show(impl.OK, impl.ErrInvalid, impl.ErrRange, impl.ErrLimit, impl.ErrState, impl.ErrSyntax, impl.ErrNotFound, impl.ErrBudget, impl.ErrProof)
	expect(t, "codes", codes, show(0, 1, 2, 3, 4, 5, 6, 7, 8))
	expect(t, "limits", show(impl.MaxSize, impl.MaxPairs, impl.MinTeeth, impl.MaxTeeth), show(1048576, 8, 6, 200))
}

func TestSameNumber(t *testing.T) {
	numbers := []float32{0, negZero, 1, -1, above(1), tiny, -tiny, inf, -inf, nan, math.MaxFloat32}
	for i, a := range numbers {
		for j, b := range numbers {
			if impl.SameNumber(a, b) != (i == j) {
				t.Errorf("SameNumber of %v and %v is %v", a, b, i != j)
			}
		}
	}
	if !impl.SameNumber(nan, otherNaN) || !impl.SameNumber(math.Float32frombits(0x7f800001), nan) {
		t.Errorf("NaN of other bits is not the same")
	}
}

func TestPlainNumbersAndParts(t *testing.T) {
	for _, a := range []float32{0, negZero, tiny, -tiny, 1, -1, 1048576, -1048576} {
		if !impl.IsPlain(a) {
			t.Errorf("%v is not plain", a)
		}
	}
	for _, a := range notPlain {
		if impl.IsPlain(a) {
			t.Errorf("%v is plain", a)
		}
	}
	for _, a := range []float32{0, negZero, tiny, 0.5, below(1), 1} {
		if !impl.IsPart(a) {
			t.Errorf("%v is no part", a)
		}
	}
	for _, a := range []float32{-tiny, above(1), -1, 2, inf, -inf, nan, otherNaN} {
		if impl.IsPart(a) {
			t.Errorf("%v is a part", a)
		}
	}
}

func TestValidTrain(t *testing.T) {
	for _, a := range someTrains(300) {
		if !impl.ValidTrain(a) {
			t.Errorf("%v is not valid", a)
		}
	}
	for _, a := range badTrains() {
		if impl.ValidTrain(a) {
			t.Errorf("%v is valid", a)
		}
	}
}

func TestSameTrain(t *testing.T) {
	good := impl.Pair{Driver: 12, Driven: 48, Loss: 0}
	list := []impl.Train{
		{},
		{good},
		{good, good},
		{{Driver: 13, Driven: 48}},
		{{Driver: 12, Driven: 49}},
		{{Driver: 12, Driven: 48, Loss: negZero}},
		{{Driver: 12, Driven: 48, Loss: nan}},
		{{Driver: 12, Driven: 48, Loss: tiny}},
		{good, {Driver: 12, Driven: 48, Loss: negZero}},
		{{Driver: -1, Driven: 0, Loss: inf}},
		repeated(good, 20),
	}
	for i, a := range list {
		for j, b := range list {
			if impl.SameTrain(a, b) != (i == j) {
				t.Errorf("SameTrain of %v and %v is %v", a, b, i != j)
			}
		}
	}
	if !impl.SameTrain(nil, impl.Train{}) || !impl.SameTrain(impl.Train{}, nil) {
		t.Errorf("a nil train and an empty one are not the same")
	}
	if !impl.SameTrain(impl.Train{{Loss: nan}}, impl.Train{{Loss: otherNaN}}) {
		t.Errorf("NaN of other bits is not the same")
	}
}

func TestRatioOf(t *testing.T) {
	for _, a := range someTrains(300) {
		ratio := big.NewRat(1, 1)
		for _, p := range a {
			ratio.Mul(ratio, big.NewRat(int64(p.Driver), int64(p.Driven)))
		}
		num, den, code := impl.RatioOf(a)
		expect(t, "RatioOf", show(num, den, code), show(ratio.Num(), ratio.Denom(), 0))
	}
	num, den, code := impl.RatioOf(repeated(impl.Pair{Driver: 200, Driven: 199}, 8))
	expect(t, "greatest ratio", show(num, den, code), show(int64(2560000000000000000), int64(2459374191553118401), 0))
}

func TestFactorOf(t *testing.T) {
	for _, a := range someTrains(300) {
		want := float32(1)
		for _, p := range a {
			want = product(want, quotient(float32(p.Driver), float32(p.Driven)))
		}
		factor, code := impl.FactorOf(a)
		expect(t, "FactorOf", show(factor, code), show(want, 0))
	}
	// The quotient of both products would be 0.2, the next number.
	factor, code := impl.FactorOf(impl.Train{{Driver: 6, Driven: 10}, {Driver: 6, Driven: 18}})
	expect(t, "rounded factor", show(impl.NumberText(factor), code), show("3e4cccce", 0))
}

func TestIsReversed(t *testing.T) {
	for n := 1; n <= 8; n++ {
		reversed, code := impl.IsReversed(repeated(impl.Pair{Driver: 12, Driven: 48}, n))
		expect(t, "IsReversed", show(reversed, code), show(n%2 == 1, 0))
	}
}

// axleSpeeds and axleTorques follow the document's words with wide numbers.
func axleSpeeds(a impl.Train, speed float32) []float32 {
	list := []float32{speed}
	for _, p := range a {
		speed = -product(speed, quotient(float32(p.Driver), float32(p.Driven)))
		list = append(list, speed)
	}
	return list
}

func axleTorques(a impl.Train, torque float32) []float32 {
	list := []float32{torque}
	for _, p := range a {
		turned := product(torque, quotient(float32(p.Driven), float32(p.Driver)))
		torque = -product(turned, difference(1, p.Loss))
		list = append(list, torque)
	}
	return list
}

func TestSpeedsTorquesAndPowers(t *testing.T) {
	p := picker(2)
	for _, a := range someTrains(2000) {
		speed, torque := p.plain(), p.plain()
		speeds, one := impl.SpeedsOf(a, speed)
		torques, two := impl.TorquesOf(a, torque)
		powers, three := impl.PowersOf(a, speed, torque)
		lost, four := impl.LostPower(a, speed, torque)
		wantSpeeds, wantTorques := axleSpeeds(a, speed), axleTorques(a, torque)
		var wantPowers []float32
		for i := range wantSpeeds {
			wantPowers = append(wantPowers, product(wantSpeeds[i], wantTorques[i]))
		}
		wantLost := difference(wantPowers[0], wantPowers[len(a)])
		expect(t, "SpeedsOf", show(speeds, one), show(wantSpeeds, 0))
		expect(t, "TorquesOf", show(torques, two), show(wantTorques, 0))
		expect(t, "PowersOf", show(powers, three), show(wantPowers, 0))
		expect(t, "LostPower", show(lost, four), show(wantLost, 0))
	}
}

func TestSignsOfNothing(t *testing.T) {
	a := impl.Train{{Driver: 12, Driven: 48, Loss: 1}, {Driver: 20, Driven: 10}}
	speeds, _ := impl.SpeedsOf(a, 0)
	torques, _ := impl.TorquesOf(a, 0)
	expect(t, "0", show(speeds, torques), show([]float32{0, negZero, 0}, []float32{0, negZero, 0}))
	speeds, _ = impl.SpeedsOf(a, negZero)
	torques, _ = impl.TorquesOf(a, negZero)
	expect(t, "-0", show(speeds, torques), show([]float32{negZero, 0, negZero}, []float32{negZero, 0, negZero}))
	torques, _ = impl.TorquesOf(a, 3)
	powers, _ := impl.PowersOf(a, -8, 3)
	lost, _ := impl.LostPower(a, -8, 3)
	expect(t, "all lost", show(torques, powers, lost), show([]float32{3, negZero, 0}, []float32{-24, negZero, negZero}, -24))
	lost, _ = impl.LostPower(a, 0, 3)
	expect(t, "nothing lost", show(lost), show(0))
}

func TestSubnormalSpeeds(t *testing.T) {
	a := impl.Train{{Driver: 10, Driven: 20}, {Driver: 10, Driven: 20}}
	speeds, code := impl.SpeedsOf(a, 3*tiny)
	// The half of 3 lies between 1 and 2, and goes to the even one.
	expect(t, "ties", show(speeds, code), show([]float32{3 * tiny, -2 * tiny, tiny}, 0))
	torques, code := impl.TorquesOf(impl.Train{{Driver: 12, Driven: 12, Loss: 0.5}}, tiny)
	expect(t, "to nothing", show(torques, code), show([]float32{tiny, negZero}, 0))
}

func TestOrderOfProducts(t *testing.T) {
	kept := difference(1, 0.3)
	var others [3]int
	for driver := int16(6); driver <= 200; driver++ {
		teeth := float32(driver)
		torques, code := impl.TorquesOf(impl.Train{pairOf(driver, 97, 0.3)}, 7)
		want := -product(product(7, quotient(97, teeth)), kept)
		expect(t, "TorquesOf", show(torques, code), show([]float32{7, want}, 0))
		for i, other := range []float32{
			-product(7, product(quotient(97, teeth), kept)),
			-product(product(7, kept), quotient(97, teeth)),
			-product(quotient(product(7, 97), teeth), kept),
		} {
			if other != want {
				others[i]++
			}
		}
	}
	for i, count := range others {
		if count == 0 {
			t.Errorf("no driver tells the order of products from the other one %v", i)
		}
	}
}

func TestEfficiencyOf(t *testing.T) {
	for _, a := range someTrains(300) {
		want := float32(1)
		for _, p := range a {
			want = product(want, difference(1, p.Loss))
		}
		part, code := impl.EfficiencyOf(a)
		expect(t, "EfficiencyOf", show(part, code), show(want, 0))
	}
}

func trainWithLosses(losses ...float32) impl.Train {
	var a impl.Train
	for _, loss := range losses {
		a = append(a, impl.Pair{Driver: 12, Driven: 48, Loss: loss})
	}
	return a
}

func TestWorstPair(t *testing.T) {
	cases := []struct {
		losses []float32
		pair   int
		loss   float32
	}{
		{[]float32{0.5}, 0, 0.5},
		{[]float32{0.5, 0.25, 0.5}, 0, 0.5},
		{[]float32{0.25, 0.5, 0.5}, 1, 0.5},
		{[]float32{0, 0, 1, 0.5, 1}, 2, 1},
		{[]float32{0, negZero}, 0, 0},
		{[]float32{negZero, 0}, 0, negZero},
		{[]float32{negZero, negZero, 0}, 0, negZero},
		{[]float32{negZero, 0, tiny, tiny}, 2, tiny},
		{[]float32{0.5, above(0.5)}, 1, above(0.5)},
		{[]float32{0, 0, 0, 0, 0, 0, 0, tiny}, 7, tiny},
	}
	for _, c := range cases {
		pair, loss, code := impl.WorstPair(trainWithLosses(c.losses...))
		expect(t, "WorstPair", show(pair, loss, code), show(c.pair, c.loss, 0))
	}
}

func TestWithLoss(t *testing.T) {
	for _, a := range someTrains(100) {
		for i := range a {
			for _, loss := range []float32{0, negZero, tiny, 0.75, 1} {
				want := append(impl.Train{}, a...)
				want[i].Loss = loss
				with, code := impl.WithLoss(a, int64(i), loss)
				expect(t, "WithLoss", show(with, code), show(want, 0))
			}
		}
	}
}

func TestBackAndJoin(t *testing.T) {
	a := impl.Train{{Driver: 12, Driven: 48, Loss: 0.5}, {Driver: 20, Driven: 10, Loss: negZero}, {Driver: 7, Driven: 9, Loss: 1}}
	back, one := impl.BackTrain(a)
	expect(t, "BackTrain", show(back, one), show(impl.Train{pairOf(9, 7, 1), pairOf(10, 20, negZero), pairOf(48, 12, 0.5)}, 0))
	join, two := impl.JoinTrains(a, back)
	expect(t, "JoinTrains", show(join, two), show(append(append(impl.Train{}, a...), back...), 0))
	p := picker(3)
	for n := 1; n <= 8; n++ {
		for m := 1; m <= 8; m++ {
			first, second := p.train(n), p.train(m)
			join, code := impl.JoinTrains(first, second)
			if n+m > 8 {
				expect(t, "long join", show(join, code), show(impl.Train{}, impl.ErrLimit))
			} else {
				expect(t, "join", show(join, code), show(append(first, second...), 0))
			}
		}
	}
}

func TestRadiusOf(t *testing.T) {
	modules := []float32{1.0 / 16, above(1.0 / 16), 0.3, 1, 2, below(64), 64}
	for _, module := range modules {
		for teeth := int64(6); teeth <= 200; teeth++ {
			radius, code := impl.RadiusOf(teeth, module)
			expect(t, "RadiusOf", show(radius, code), show(quotient(product(float32(teeth), module), 2), 0))
		}
	}
	for _, module := range []float32{below(1.0 / 16), above(64), 0, negZero, -1, inf, -inf, nan} {
		radius, one := impl.RadiusOf(12, module)
		distances, two := impl.DistancesOf(impl.Train{{Driver: 12, Driven: 48}}, module)
		expect(t, "module", show(radius, one, distances, two), show(0, impl.ErrRange, noNumbers(), impl.ErrRange))
	}
	for _, teeth := range []int64{5, 201, 0, -12, math.MinInt64, math.MaxInt64, 1<<32 + 12, 1<<16 + 12} {
		radius, code := impl.RadiusOf(teeth, 1)
		expect(t, "teeth", show(radius, code), show(0, impl.ErrRange))
	}
}

// noNumbers is a list of numbers as it stands beside an error.
func noNumbers() []float32 { return nil }

func TestDistancesOf(t *testing.T) {
	p := picker(4)
	for _, a := range someTrains(300) {
		module := float32(p.below(1<<20)+1<<14) / (1 << 18)
		var want []float32
		for _, pair := range a {
			driver := quotient(product(float32(pair.Driver), module), 2)
			driven := quotient(product(float32(pair.Driven), module), 2)
			want = append(want, sum(driver, driven))
		}
		distances, code := impl.DistancesOf(a, module)
		expect(t, "DistancesOf", show(distances, code), show(want, 0))
	}
}

func TestTurnsToMeet(t *testing.T) {
	for driver := int16(6); driver <= 200; driver++ {
		for driven := int16(6); driven <= 200; driven += 7 {
			turns := int64(1)
			for turns*int64(driver)%int64(driven) != 0 {
				turns++
			}
			got, code := impl.TurnsToMeet(impl.Train{{Driver: 7, Driven: 9}, {Driver: driver, Driven: driven}}, 1)
			expect(t, "TurnsToMeet", show(got, code), show(turns, 0))
		}
	}
}

func TestErrorsOfTrains(t *testing.T) {
	good := impl.Train{{Driver: 12, Driven: 48, Loss: 0.5}, {Driver: 20, Driven: 10}}
	for _, bad := range badTrains() {
		expectInvalid(t, bad, 1, 0)
		// ErrInvalid is found before what ErrRange and ErrLimit stand for.
		expectInvalid(t, bad, nan, -1)
		_, one := impl.JoinTrains(bad, good)
		_, two := impl.JoinTrains(good, bad)
		_, three := impl.JoinTrains(bad, repeated(good[0], 8))
		_, four := impl.JoinTrains(repeated(good[0], 8), bad)
		expect(t, "JoinTrains", show(one, two, three, four), show(1, 1, 1, 1))
	}
	for _, x := range notPlain {
		expectRange(t, good, x)
	}
	for _, pair := range []int64{-1, 2, math.MinInt64, math.MaxInt64, 1 << 32} {
		with, one := impl.WithLoss(good, pair, 0.5)
		turns, two := impl.TurnsToMeet(good, pair)
		expect(t, "pair", show(with, one, turns, two), show(impl.Train{}, impl.ErrRange, 0, impl.ErrRange))
	}
	for _, loss := range []float32{-tiny, above(1), inf, -inf, nan, otherNaN} {
		with, code := impl.WithLoss(good, 1, loss)
		expect(t, "loss", show(with, code), show(impl.Train{}, impl.ErrRange))
	}
}

func expectInvalid(t *testing.T, bad impl.Train, x float32, pair int64) {
	t.Helper()
	num, den, c1 := impl.RatioOf(bad)
	factor, c2 := impl.FactorOf(bad)
	reversed, c3 := impl.IsReversed(bad)
	speeds, c4 := impl.SpeedsOf(bad, x)
	torques, c5 := impl.TorquesOf(bad, x)
	powers, c6 := impl.PowersOf(bad, x, x)
	part, c7 := impl.EfficiencyOf(bad)
	lost, c8 := impl.LostPower(bad, x, x)
	worst, loss, c9 := impl.WorstPair(bad)
	with, c10 := impl.WithLoss(bad, pair, x)
	back, c11 := impl.BackTrain(bad)
	distances, c12 := impl.DistancesOf(bad, x)
	turns, c13 := impl.TurnsToMeet(bad, pair)
	expect(t, "codes", show(c1, c2, c3, c4, c5, c6, c7, c8, c9, c10, c11, c12, c13), show(1, 1, 1, 1, 1, 1, 1, 1, 1, 1, 1, 1, 1))
	expect(t, "zero values", show(num, den, factor, reversed, part, lost, worst, loss, turns), show(0, 0, 0, false, 0, 0, 0, 0, 0))
	expect(t, "empty lists", show(len(speeds), len(torques), len(powers), len(with), len(back), len(distances)), show(0, 0, 0, 0, 0, 0))
	expect(t, "text", impl.TrainText(bad), "")
}

func expectRange(t *testing.T, a impl.Train, x float32) {
	t.Helper()
	speeds, one := impl.SpeedsOf(a, x)
	torques, two := impl.TorquesOf(a, x)
	first, three := impl.PowersOf(a, x, 1)
	second, four := impl.PowersOf(a, 1, x)
	lost, five := impl.LostPower(a, x, 1)
	more, six := impl.LostPower(a, 1, x)
	expect(t, "codes", show(one, two, three, four, five, six), show(2, 2, 2, 2, 2, 2))
	expect(t, "zero values", show(speeds, torques, first, second, lost, more), show(noNumbers(), noNumbers(), noNumbers(), noNumbers(), 0, 0))
}

func TestNumberTexts(t *testing.T) {
	cases := []struct {
		number float32
		text   string
	}{
		{0, "00000000"}, {negZero, "80000000"}, {1, "3f800000"}, {0.5, "3f000000"}, {-2, "c0000000"},
		{tiny, "00000001"}, {-tiny, "80000001"}, {inf, "7f800000"}, {-inf, "ff800000"},
		{math.MaxFloat32, "7f7fffff"}, {nan, "7fc00000"},
	}
	for _, c := range cases {
		expect(t, "NumberText", impl.NumberText(c.number), c.text)
		number, code := impl.ReadNumber(c.text)
		expect(t, "ReadNumber", show(number, code), show(c.number, 0))
	}
	for _, bits := range []uint32{0x7f800001, 0x7fffffff, 0xffc00000, 0xffffffff, 0x7fc00001} {
		expect(t, "NaN", impl.NumberText(math.Float32frombits(bits)), "7fc00000")
	}
	number, _ := impl.ReadNumber("7fc00000")
	expect(t, "bits of NaN", show(math.Float32bits(number)), show(uint32(0x7fc00000)))
	p := picker(5)
	for range 10000 {
		a := p.plain()
		number, code := impl.ReadNumber(impl.NumberText(a))
		expect(t, "read again", show(number, code), show(a, 0))
	}
}

func TestTextsOfNoNumber(t *testing.T) {
	texts := []string{
		"", "0", "3f80000", "3f8000000", "03f800000", "3F800000", "3f80000g", " 3f80000", "3f80000 ", "+3f80000", "-3f80000",
		"0x3f8000", "3f_80000", "3f800000\n", "3f800000\x00", "7f800001", "7fc00001", "7fffffff", "ffc00000", "ffffffff", "FFC00000", "7FC00000",
		"nan", "NaN", "1.5", "........", "３f800", "\xff\xff\xff\xff\xff\xff\xff\xff",
		strings.Repeat("0", 1000000), "00000000" + "3f800000",
	}
	for _, text := range texts {
		number, code := impl.ReadNumber(text)
		if number != 0 || code != impl.ErrSyntax {
			t.Errorf("ReadNumber of %.40q: got %v %v", text, number, code)
		}
	}
}

func TestTrainTexts(t *testing.T) {
	a := impl.Train{{Driver: 12, Driven: 48, Loss: 0.5}, {Driver: 6, Driven: 200, Loss: negZero}, {Driver: 100, Driven: 99, Loss: 1}}
	text := "12/48:3f000000 6/200:80000000 100/99:3f800000"
	expect(t, "TrainText", impl.TrainText(a), text)
	read, code := impl.ReadTrain(text)
	expect(t, "ReadTrain", show(read, code), show(a, 0))
	for _, a := range someTrains(1000) {
		read, code := impl.ReadTrain(impl.TrainText(a))
		expect(t, "read again", show(read, code), show(a, 0))
	}
	eight, code := impl.ReadTrain(strings.Repeat("12/48:00000000 ", 7) + "12/48:00000000")
	expect(t, "eight pairs", show(len(eight), code), show(8, 0))
}

func TestTextsOfNoTrain(t *testing.T) {
	texts := []string{
		"", " ", "/", ":", "/:", "12", "12/48", "12/48:", "12:3f000000", "12/:3f000000", "/48:3f000000", ":3f000000",
		"12/48:3f000000 ", " 12/48:3f000000", "12/48:3f000000  20/10:00000000", "12/48:3f000000\t20/10:00000000", "12/48:3f000000,20/10:00000000",
		"12/48:3f000000\n", "12/48: 3f000000", "12 /48:3f000000", "12/48:3f000000:", "12/48/6:3f000000", "12/48:3f000000/6",
		"012/48:3f000000", "12/048:3f000000", "+12/48:3f000000", "12/+48:3f000000", "-12/48:3f000000", "0xc/48:3f000000", "1_2/48:3f000000",
		"5/48:3f000000", "201/48:3f000000", "12/5:3f000000", "12/201:3f000000", "0/0:3f000000", "65548/48:3f000000", "12/65584:3f000000",
		"99999999999999999999/48:3f000000", "12/48:3F000000", "12/48:3f00000", "12/48:3f0000000", "12/48:7fc00000", "12/48:3f800001",
		"12/48:80000001", "12/48:40000000", "12/48:7f800000", "12/48:bf000000", "12/48:0.5", "１２/48:3f000000",
		strings.Repeat("12/48:00000000 ", 8) + "12/48:00000000", strings.Repeat("12/48:00000000 ", 8),
		"12/48:3f000000 5/10:00000000", "12/48:3f000000 20/10", strings.Repeat(" ", 1000000), strings.Repeat("1", 1000000), strings.Repeat("12/48:00000000 ", 60000),
	}
	for _, text := range texts {
		read, code := impl.ReadTrain(text)
		if len(read) != 0 || code != impl.ErrSyntax {
			t.Errorf("ReadTrain of %.60q: got %v %v", text, read, code)
		}
	}
}
