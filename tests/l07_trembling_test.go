package tests

import (
	"math"
	"slices"
	"strings"
	"testing"

	"loop.example/g01344/impl"
)

func TestLimitsOfTrembling(t *testing.T) {
	expect(t, "limits", show(impl.MaxWeights, impl.MaxDiscs, impl.Turns), show(20, 10, 8))
}

func TestExampleOfTrembling(t *testing.T) {
	list := exampleWeights()
	expect(t, "TimesPoint", show(impl.TimesPoint(complex(1, 2), complex(3, 4))), show(complex64(complex(-5, 10))))
	pull, one := impl.PullOfWeights(list)
	mass, left, two := impl.BalanceAt(list, complex(-1, 0))
	a, b, three := impl.BalanceWith(list, complex(-1, 0), complex(0, -1))
	over, four := impl.LeftOver(list, []impl.Weight{weightOf(-1, 0, 2), weightOf(0, -1, 1)})
	expect(t, "weights", show(pull, one, mass, left, two, a, b, three, over, four), show(complex64(complex(2, 1)), 0, 2, complex64(complex(0, 1)), 0, 2, 1, 0, 0, 0))
	order, most, one := impl.StrongestSwing(exampleReadings())
	expect(t, "readings", show(order, most, one), show(2, 16, 0))
	still, none, one := impl.AnswerOf(exampleLine(), 0)
	swings, twists, two := impl.AnswerOf(exampleLine(), 4)
	expect(t, "line", show(still, none, one, swings, twists, two), show([]float32{1, 1}, []float32{0, 0}, 0, []float32{1, -1}, []float32{-4, 0}, 0))
}

func TestSamePoint(t *testing.T) {
	numbers := []float32{0, negZero, 1, -1, tiny, -tiny, plainest, inf, -inf, nan}
	var list []complex64
	for _, east := range numbers {
		for _, north := range numbers {
			list = append(list, complex(east, north))
		}
	}
	for i, a := range list {
		for j, b := range list {
			if impl.SamePoint(a, b) != (i == j) {
				t.Errorf("SamePoint of %v and %v is %v", a, b, i != j)
			}
		}
	}
	if !impl.SamePoint(complex(nan, otherNaN), complex(otherNaN, nan)) {
		t.Errorf("NaN of other bits is not the same")
	}
}

func TestIsPoint(t *testing.T) {
	for _, east := range []float32{0, negZero, tiny, -1, plainest, -plainest} {
		for _, north := range []float32{0, negZero, -tiny, 1, plainest, -plainest} {
			if !impl.IsPoint(complex(east, north)) || !impl.IsPoint(complex(north, east)) {
				t.Errorf("%v and %v are no point", east, north)
			}
		}
	}
	for _, a := range notPoints() {
		if impl.IsPoint(a) {
			t.Errorf("%v is a point", a)
		}
	}
}

// pointCase is two numbers with parts of all kinds, and a part.
type pointCase struct {
	a, b complex64
	part float32
}

func somePoints(count int) []pointCase {
	p := picker(141)
	var list []pointCase
	for range count {
		list = append(list, pointCase{p.anyComplex(), p.anyComplex(), p.anyNumber()}, pointCase{p.point(), p.point(), p.signed(64)})
	}
	return list
}

func TestSumsAndProductsOfPoints(t *testing.T) {
	list := somePoints(50000)
	for _, c := range list {
		got := show(impl.PlusPoint(c.a, c.b), impl.TimesPoint(c.a, c.b), impl.PartOf(c.a, c.part), impl.SquareOf(c.a))
		expect(t, "points "+show(c), got, show(wantPlus(c.a, c.b), wantTimes(c.a, c.b), wantPart(c.a, c.part), wantSquare(c.a)))
	}
	// What is too great, or no number, tells nothing of roundings.
	list = slices.DeleteFunc(list, func(c pointCase) bool { return !impl.IsPoint(c.a) || !impl.IsPoint(c.b) })
	east := func(c pointCase) float32 { return real(wantTimes(c.a, c.b)) }
	tellsApart(t, "products that are not rounded", list, east, func(c pointCase) float32 {
		return rounds(float64(real(c.a))*float64(real(c.b)) - float64(imag(c.a))*float64(imag(c.b)))
	})
	tellsApart(t, "one product that is not rounded", list, east, func(c pointCase) float32 {
		return rounds(float64(real(c.a))*float64(real(c.b)) - float64(product(imag(c.a), imag(c.b))))
	})
	tellsApart(t, "products of the language", list, east, func(c pointCase) float32 { return real(c.a * c.b) })
	north := func(c pointCase) float32 { return imag(wantTimes(c.a, c.b)) }
	tellsApart(t, "one product that is not rounded", list, north, func(c pointCase) float32 {
		return rounds(float64(real(c.a))*float64(imag(c.b)) + float64(product(imag(c.a), real(c.b))))
	})
	tellsApart(t, "the other product that is not rounded", list, north, func(c pointCase) float32 {
		return rounds(float64(product(real(c.a), imag(c.b))) + float64(imag(c.a))*float64(real(c.b)))
	})
	square := func(c pointCase) float32 { return wantSquare(c.a) }
	tellsApart(t, "one square that is not rounded", list, square, func(c pointCase) float32 {
		return rounds(float64(real(c.a))*float64(real(c.a)) + float64(product(imag(c.a), imag(c.a))))
	})
	tellsApart(t, "the other square that is not rounded", list, square, func(c pointCase) float32 {
		return rounds(float64(product(real(c.a), real(c.a))) + float64(imag(c.a))*float64(imag(c.a)))
	})
}

func TestTimesPointAtLimits(t *testing.T) {
	great := float32(1 << 127)
	cases := []struct{ a, b, want complex64 }{
		{complex(1, 2), complex(3, 4), complex(-5, 10)}, {complex(0, 1), complex(0, 1), complex(-1, 0)}, {complex(1, 0), complex(0, 1), complex(0, 1)}, {complex(-1, 0), complex(0, -1), complex(0, 1)},
		{complex(0, 0), complex(0, 0), complex(0, 0)}, {complex(negZero, 0), complex(1, 0), complex(negZero, 0)}, {complex(1, negZero), complex(1, 0), complex(1, 0)}, {complex(1, negZero), complex(1, negZero), complex(1, negZero)},
		{complex(negZero, negZero), complex(1, 1), complex(0, negZero)}, {complex(negZero, 0), complex(1, 1), complex(negZero, 0)}, {complex(0, negZero), complex(1, 1), complex(0, 0)}, {complex(negZero, negZero), complex(1, -1), complex(negZero, 0)},
		{complex(-1, 0), complex(0, 0), complex(negZero, 0)}, {complex(-1, 0), complex(0, negZero), complex(0, 0)}, {complex(-1, negZero), complex(1, 0), complex(-1, negZero)}, {complex(0, 1), complex(1, negZero), complex(0, 1)},
		{complex(inf, 0), complex(1, 0), complex(inf, nan)}, {complex(inf, inf), complex(1, 1), complex(nan, inf)}, {complex(inf, 1), complex(1, 1), complex(inf, inf)}, {complex(inf, -inf), complex(1, 1), complex(inf, nan)}, {complex(nan, 0), complex(1, 1), complex(nan, nan)}, {complex(0, 0), complex(inf, 1), complex(nan, nan)},
		// Each product is rounded first, also where only the sum would not be too great, or too small.
		{complex(great, great), complex(2, 2), complex(nan, inf)}, {complex(great, great), complex(2, -2), complex(inf, nan)}, {complex(tiny, tiny), complex(0.5, -0.5), complex(0, 0)}, {complex(tiny, tiny), complex(0.5, 0.5), complex(0, 0)},
		{complex(3*tiny, 0), complex(0.5, -0.5), complex(2*tiny, -2*tiny)}, {complex(tiny, 0), complex(-0.5, 0.5), complex(negZero, 0)},
		{complex(4097, 4096), complex(4097, 4098), complex(0, 33570816)},
	}
	for _, c := range cases {
		expect(t, "TimesPoint "+show(c), show(impl.TimesPoint(c.a, c.b)), show(c.want))
		expect(t, "wanted "+show(c), show(wantTimes(c.a, c.b)), show(c.want))
	}
}

func TestPlusPartAndSquareAtLimits(t *testing.T) {
	sums := []struct{ a, b, want complex64 }{
		{complex(1, 2), complex(3, 4), complex(4, 6)}, {complex(0, negZero), complex(negZero, negZero), complex(0, negZero)}, {complex(1, -1), complex(-1, 1), complex(0, 0)}, {complex(tiny, 1), complex(tiny, tiny), complex(2*tiny, 1)},
		{complex(inf, -inf), complex(-inf, -inf), complex(nan, -inf)}, {complex(math.MaxFloat32, 0), complex(math.MaxFloat32, nan), complex(inf, nan)}, {complex(1<<24, 1<<24), complex(1, 3), complex(1<<24, 1<<24+4)},
	}
	for _, c := range sums {
		expect(t, "PlusPoint "+show(c), show(impl.PlusPoint(c.a, c.b), impl.PlusPoint(c.b, c.a)), show(c.want, c.want))
	}
	parts := []struct {
		a    complex64
		part float32
		want complex64
	}{
		{complex(3, 6), 0.5, complex(1.5, 3)}, {complex(1, -1), 0, complex(0, negZero)}, {complex(1, -1), negZero, complex(negZero, 0)}, {complex(0, negZero), -1, complex(negZero, 0)}, {complex(0, negZero), 2, complex(0, negZero)},
		{complex(tiny, 3*tiny), 0.5, complex(0, 2*tiny)}, {complex(-tiny, -3*tiny), 0.5, complex(negZero, -2*tiny)}, {complex(inf, 1), 0, complex(nan, 0)}, {complex(inf, 0), inf, complex(inf, nan)}, {complex(1, -1), nan, complex(nan, nan)}, {complex(1<<127, 1), 2, complex(inf, 2)},
	}
	for _, c := range parts {
		expect(t, "PartOf "+show(c), show(impl.PartOf(c.a, c.part)), show(c.want))
	}
	squares := []struct {
		a    complex64
		want float32
	}{
		{complex(3, 4), 25}, {complex(-3, 4), 25}, {complex(negZero, negZero), 0}, {complex(tiny, -tiny), 0}, {complex(1<<64, 0), inf}, {complex(inf, -inf), inf}, {complex(inf, nan), nan}, {complex(plainest, -plainest), 1 << 41},
		{complex(1.0/(1<<37), 1.0/(1<<38)), 1.25 / (1 << 60) / (1 << 14)},
	}
	for _, c := range squares {
		expect(t, "SquareOf "+show(c.a), show(impl.SquareOf(c.a)), show(c.want))
	}
	// Half of the least number is rounded to 0 each time.
	least := float32(math.Sqrt(0.5 * float64(tiny)))
	expect(t, "SquareOf "+show(least), show(impl.SquareOf(complex(below(least), below(least)))), show(0))
}

func TestPlaceOf(t *testing.T) {
	for turn, want := range wantPlaces() {
		place, code := impl.PlaceOf(int64(turn))
		expect(t, "PlaceOf", show(place, code), show(want, 0))
	}
	for _, turn := range []int64{-1, -2, -8, 8, 9, 16, 1 << 32, 1<<32 + 1, -(1 << 32), math.MaxInt64, math.MinInt64} {
		place, code := impl.PlaceOf(turn)
		expect(t, "PlaceOf "+show(turn), show(place, code), show(complex64(0), impl.ErrRange))
	}
}

func TestValidWeights(t *testing.T) {
	for _, list := range someWeights(2000) {
		if !impl.ValidWeights(list) {
			t.Errorf("%v are not valid", list)
		}
	}
	for _, list := range badWeights() {
		if impl.ValidWeights(list) {
			t.Errorf("%v are valid", list)
		}
	}
}

func TestPullOfWeights(t *testing.T) {
	list := someWeights(20000)
	for _, weights := range list {
		pull, code := impl.PullOfWeights(weights)
		expect(t, "PullOfWeights "+show(weights), show(pull, code), show(wantPullOf(weights), 0))
	}
	east := func(weights []impl.Weight) float32 { return real(wantPullOf(weights)) }
	tellsApart(t, "from the last weight on", list, east, func(weights []impl.Weight) float32 {
		back := slices.Clone(weights)
		slices.Reverse(back)
		return real(wantPullOf(back))
	})
	tellsApart(t, "a product that is not rounded", list, east, func(weights []impl.Weight) float32 {
		whole := float32(0)
		for _, w := range weights {
			whole = rounds(float64(whole) + float64(real(w.At))*float64(w.Mass))
		}
		return whole
	})
	tellsApart(t, "a wide sum", list, east, func(weights []impl.Weight) float32 {
		whole := 0.0
		for _, w := range weights {
			whole += float64(product(real(w.At), w.Mass))
		}
		return rounds(whole)
	})
}

func TestPullAtLimits(t *testing.T) {
	cases := []struct {
		list []impl.Weight
		want complex64
	}{
		{nil, 0}, {[]impl.Weight{}, 0}, {exampleWeights(), complex(2, 1)}, {evenWeights(20, 1, -2, 3), complex(60, -120)}, {evenWeights(20, plainest, -plainest, plainest), complex(20*(1<<40), -20*(1<<40))},
		// The sum begins with 0, and so never is -0.
		{evenWeights(1, negZero, negZero, 1), 0}, {evenWeights(20, negZero, negZero, 1), 0}, {evenWeights(1, 1, -1, negZero), 0}, {evenWeights(1, -1, 1, 0), 0}, {evenWeights(2, -tiny, -1, 0.5), complex(0, -1)},
		{[]impl.Weight{weightOf(1, 0, 1), weightOf(1, 1, 1.0/(1<<24)), weightOf(1, 1, 1.0/(1<<24))}, complex(1, 1.0/(1<<23))}, {[]impl.Weight{weightOf(1, 1, 1.0/(1<<24)), weightOf(1, 1, 1.0/(1<<24)), weightOf(1, 0, 1)}, complex(above(1), 1.0/(1<<23))},
		{[]impl.Weight{weightOf(3, -3, 0.25), weightOf(-3, 3, 0.25)}, 0}, {[]impl.Weight{weightOf(tiny, -tiny, 1), weightOf(tiny, -tiny, 2)}, complex(3*tiny, -3*tiny)},
	}
	for _, c := range cases {
		pull, code := impl.PullOfWeights(c.list)
		expect(t, "PullOfWeights "+show(c.list), show(pull, code), show(c.want, 0))
	}
}

func TestBalanceAt(t *testing.T) {
	found, list := 0, []balanceCase{}
	for _, c := range someBalances(30000) {
		mass, left, code := impl.BalanceAt(c.list, c.a)
		if !canBe(c.a) {
			expect(t, "BalanceAt "+show(c), show(mass, left, code), show(0, complex64(0), impl.ErrRange))
			continue
		}
		expect(t, "BalanceAt "+show(c), show(mass, left, code), show(c.mass(), c.left(), 0))
		list = append(list, c)
		if mass > 0 {
			found++
		}
	}
	if found < 10000 || len(list)-found < 5000 {
		t.Errorf("of %v weights only %v balance", len(list), found)
	}
	tellsApart(t, "a dot that is not rounded", list, balanceCase.mass, func(c balanceCase) float32 {
		pull := wantPullOf(c.list)
		dot := rounds(float64(real(pull))*float64(real(c.a)) + float64(imag(pull))*float64(imag(c.a)))
		return max(0, difference(0, quotient(dot, wantSquare(c.a))))
	})
	tellsApart(t, "divided by the size twice", list, balanceCase.mass, func(c balanceCase) float32 {
		size := float32(math.Sqrt(float64(wantSquare(c.a))))
		return max(0, difference(0, quotient(quotient(c.dot(), size), size)))
	})
	east := func(c balanceCase) float32 { return real(c.left()) }
	tellsApart(t, "a pull whose product is not rounded", list, east, func(c balanceCase) float32 {
		return rounds(float64(real(wantPullOf(c.list))) + float64(real(c.a))*float64(c.mass()))
	})
	tellsApart(t, "a pull with one more weight in front", list, east, func(c balanceCase) float32 {
		return real(wantPullOf(append([]impl.Weight{{At: c.a, Mass: c.mass()}}, c.list...)))
	})
}

func TestBalanceAtLimits(t *testing.T) {
	thirtySecond := float32(1.0 / 32)
	far := evenWeights(1, plainest, 0, plainest)
	cases := []struct {
		list       []impl.Weight
		at         complex64
		mass       float32
		left       complex64
		rangeError bool
	}{
		{exampleWeights(), complex(-1, 0), 2, complex(0, 1), false}, {exampleWeights(), complex(-1, negZero), 2, complex(0, 1), false}, {exampleWeights(), complex(0, -1), 1, complex(2, 0), false}, {exampleWeights(), complex(-2, -1), 1, 0, false}, {exampleWeights(), complex(-1, -0.5), 2, 0, false},
		{exampleWeights(), complex(1, 0), 0, complex(2, 1), false}, {exampleWeights(), complex(1, -2), 0, complex(2, 1), false}, {exampleWeights(), complex(-1, 2), 0, complex(2, 1), false}, {exampleWeights(), complex(1, -4), 2.0 / 17, complex(sum(2, float32(2.0/17)), sum(1, product(-4, float32(2.0/17)))), false},
		{nil, complex(-1, 0), 0, 0, false}, {nil, complex(1, 1), 0, 0, false}, {evenWeights(20, negZero, -1, 0), complex(-1, negZero), 0, 0, false},
		{evenWeights(1, 2, 0, 1), complex(0, 1), 0, complex(2, 0), false}, {evenWeights(1, 2, 0, 1), complex(0, -1), 0, complex(2, 0), false}, {evenWeights(1, -2, 0, 1), complex(negZero, -1), 0, complex(-2, 0), false},
		// The square of the point is at least 1/1024.
		{exampleWeights(), complex(-thirtySecond, 0), 64, complex(0, 1), false}, {exampleWeights(), complex(thirtySecond, negZero), 0, complex(2, 1), false}, {exampleWeights(), complex(0, -thirtySecond), 32, complex(2, 0), false}, {exampleWeights(), complex(-thirtySecond, tiny), 64, complex(0, 1), false},
		{exampleWeights(), complex(below(thirtySecond), 0), 0, 0, true}, {exampleWeights(), complex(above(-thirtySecond), 0), 0, 0, true}, {exampleWeights(), complex(0, below(thirtySecond)), 0, 0, true}, {exampleWeights(), complex(above(-thirtySecond), tiny), 0, 0, true},
		{exampleWeights(), 0, 0, 0, true}, {exampleWeights(), complex(negZero, negZero), 0, 0, true}, {exampleWeights(), complex(tiny, -tiny), 0, 0, true}, {nil, complex(1.0/64, -1.0/64), 0, 0, true},
		// The mass need not be plain.
		{far, complex(-plainest, 0), plainest, 0, false}, {far, complex(-1, 0), 1 << 40, 0, false}, {far, complex(-thirtySecond, 0), 1 << 45, 0, false}, {evenWeights(20, plainest, 0, plainest), complex(-thirtySecond, 0), 20 * (1 << 45), 0, false},
		{far, complex(plainest, plainest), 0, complex(1<<40, 0), false}, {far, complex(-plainest, plainest), plainest / 2, complex(1<<39, 1<<39), false},
		// A mass that is rounded to 0 is 0, whatever its sign.
		{evenWeights(1, 1, 0, tiny), complex(-1, 0), tiny, 0, false}, {evenWeights(1, 1, 0, tiny), complex(-32, 0), 0, complex(tiny, 0), false}, {evenWeights(1, 1, 0, tiny), complex(32, 0), 0, complex(tiny, 0), false}, {evenWeights(1, 1, 0, 3*tiny), complex(-2, 0), 2 * tiny, complex(-tiny, 0), false},
	}
	for _, c := range cases {
		mass, left, code := impl.BalanceAt(c.list, c.at)
		want := 0
		if c.rangeError {
			want = impl.ErrRange
		}
		expect(t, "BalanceAt "+show(c), show(mass, left, code), show(c.mass, c.left, want))
	}
}

func TestBalanceWith(t *testing.T) {
	codes, found := map[int]int{}, []balanceCase{}
	for _, c := range someBalances(40000) {
		for _, b := range []complex64{c.b, complex(-real(c.b), imag(c.b)), complex(-real(c.b), -imag(c.b)), complex(real(c.b), -imag(c.b))} {
			c.b = b
			one, two, code := impl.BalanceWith(c.list, c.a, c.b)
			wantOne, wantTwo, want := c.both()
			expect(t, "BalanceWith "+show(c), show(one, two, code), show(wantOne, wantTwo, want))
			codes[want]++
			if want == 0 {
				found = append(found, c)
			}
		}
	}
	if codes[0] < 10000 || codes[impl.ErrState] < 1000 || codes[impl.ErrNotFound] < 10000 {
		t.Errorf("there are too few codes of a kind: %v", codes)
	}
	first := func(c balanceCase) float32 { one, _, _ := c.both(); return one }
	second := func(c balanceCase) float32 { _, two, _ := c.both(); return two }
	tellsApart(t, "a det that is not rounded", found, first, func(c balanceCase) float32 {
		pull := wantPullOf(c.list)
		det := rounds(float64(real(c.a))*float64(imag(c.b)) - float64(imag(c.a))*float64(real(c.b)))
		return quotient(difference(product(imag(pull), real(c.b)), product(real(pull), imag(c.b))), det)
	})
	tellsApart(t, "a difference that is not rounded", found, first, func(c balanceCase) float32 {
		pull := wantPullOf(c.list)
		return quotient(rounds(float64(imag(pull))*float64(real(c.b))-float64(real(pull))*float64(imag(c.b))), c.det())
	})
	tellsApart(t, "one product that is not rounded", found, second, func(c balanceCase) float32 {
		pull := wantPullOf(c.list)
		return quotient(rounds(float64(real(pull))*float64(imag(c.a))-float64(product(imag(pull), real(c.a)))), c.det())
	})
	tellsApart(t, "quotients first", found, second, func(c balanceCase) float32 {
		pull := wantPullOf(c.list)
		return difference(quotient(product(real(pull), imag(c.a)), c.det()), quotient(product(imag(pull), real(c.a)), c.det()))
	})
	tellsApart(t, "the mass that is left", found, second, func(c balanceCase) float32 {
		c.list = append(slices.Clone(c.list), impl.Weight{At: c.a, Mass: first(c)})
		c.a = c.b
		return c.mass()
	})
}

func TestBalanceWithLimits(t *testing.T) {
	thirtySecond := float32(1.0 / 32)
	heaviest := evenWeights(1, 1, 0, plainest)
	cases := []struct {
		list     []impl.Weight
		a, b     complex64
		one, two float32
		code     int
	}{
		{exampleWeights(), complex(-1, 0), complex(0, -1), 2, 1, 0}, {exampleWeights(), complex(0, -1), complex(-1, 0), 1, 2, 0}, {exampleWeights(), complex(-1, -1), complex(-1, 0), 1, 1, 0}, {exampleWeights(), complex(-2, -1), complex(1, -1), 1, 0, 0},
		{exampleWeights(), complex(-1, 0), complex(0, 1), 0, 0, impl.ErrNotFound}, {exampleWeights(), complex(1, 0), complex(0, -1), 0, 0, impl.ErrNotFound}, {exampleWeights(), complex(1, 0), complex(0, 1), 0, 0, impl.ErrNotFound},
		{exampleWeights(), complex(-1, 0), complex(-2, 0), 0, 0, impl.ErrState}, {exampleWeights(), complex(-1, 0), complex(1, 0), 0, 0, impl.ErrState}, {exampleWeights(), complex(-1, 0), 0, 0, 0, impl.ErrState}, {exampleWeights(), 0, complex(negZero, negZero), 0, 0, impl.ErrState}, {exampleWeights(), complex(3, -5), complex(3, -5), 0, 0, impl.ErrState},
		// The size of det is at least 1/1024.
		{exampleWeights(), complex(-thirtySecond, 0), complex(0, -thirtySecond), 64, 32, 0}, {exampleWeights(), complex(0, -thirtySecond), complex(-thirtySecond, 0), 32, 64, 0}, {exampleWeights(), complex(-thirtySecond, 0), complex(0, above(-thirtySecond)), 0, 0, impl.ErrState}, {exampleWeights(), complex(0, above(-thirtySecond)), complex(-thirtySecond, 0), 0, 0, impl.ErrState},
		{exampleWeights(), complex(-1, 0), complex(-1, -leastDivisor), 0, 0, impl.ErrNotFound}, {exampleWeights(), complex(-1, 0), complex(1, -leastDivisor), 1026, 1024, 0}, {exampleWeights(), complex(-1, 0), complex(1, above(-leastDivisor)), 0, 0, impl.ErrState}, {exampleWeights(), complex(plainest, 0), complex(0, tiny), 0, 0, impl.ErrState},
		// Masses are plain, and no less than 0.
		{heaviest, complex(-1, 0), complex(0, -1), plainest, 0, 0}, {append(evenWeights(1, 1, 0, 0.125), heaviest...), complex(-1, 0), complex(0, -1), 0, 0, impl.ErrNotFound}, {heaviest, complex(0, -1), complex(below(-1), 0), 0, below(below(plainest)), 0}, {heaviest, complex(0, -1), complex(above(-1), 0), 0, 0, impl.ErrNotFound},
		{evenWeights(1, -1, 0, tiny), complex(-1, 0), complex(0, -1), 0, 0, impl.ErrNotFound}, {evenWeights(1, 0, -1, tiny), complex(-1, 0), complex(0, -1), 0, 0, impl.ErrNotFound}, {evenWeights(1, plainest, plainest, plainest), complex(-thirtySecond, 0), complex(0, -thirtySecond), 0, 0, impl.ErrNotFound},
		// A mass can be -0, which is not less than 0.
		{nil, complex(1, 0), complex(0, 1), 0, 0, 0}, {nil, complex(0, 1), complex(1, 0), negZero, negZero, 0}, {nil, complex(-1, 0), complex(0, -1), 0, 0, 0}, {evenWeights(1, -1, 0, tiny), complex(-2, 0), complex(0, -2), negZero, 0, 0}, {evenWeights(1, 1, 0, tiny), complex(-2, 0), complex(0, -2), 0, 0, 0},
		{evenWeights(1, 1, 0, 2), complex(-1, 0), complex(0, 1), 2, negZero, 0}, {evenWeights(1, 1, 0, 2), complex(-1, 0), complex(0, -1), 2, 0, 0},
	}
	for _, c := range cases {
		one, two, code := impl.BalanceWith(c.list, c.a, c.b)
		expect(t, "BalanceWith "+show(c), show(one, two, code), show(c.one, c.two, c.code))
		wantOne, wantTwo, want := balanceCase{c.list, c.a, c.b}.both()
		expect(t, "wanted "+show(c), show(wantOne, wantTwo, want), show(c.one, c.two, c.code))
	}
}

func TestLeftOver(t *testing.T) {
	p := picker(142)
	type twoLists struct{ list, more []impl.Weight }
	var lists []twoLists
	for _, list := range someWeights(10000) {
		more := p.weights(p.below(21 - len(list)))
		over, code := impl.LeftOver(list, more)
		want := wantSquare(wantPullOf(append(slices.Clone(list), more...)))
		expect(t, "LeftOver "+show(list, more), show(over, code), show(want, 0))
		lists = append(lists, twoLists{list, more})
	}
	want := func(c twoLists) float32 { return wantSquare(wantPullOf(append(slices.Clone(c.list), c.more...))) }
	tellsApart(t, "the sum of two pulls", lists, want, func(c twoLists) float32 {
		return wantSquare(wantPlus(wantPullOf(c.list), wantPullOf(c.more)))
	})
	tellsApart(t, "the lists the other way round", lists, want, func(c twoLists) float32 {
		return wantSquare(wantPullOf(append(slices.Clone(c.more), c.list...)))
	})
}

func TestLeftOverAtLimits(t *testing.T) {
	cases := []struct {
		list, more []impl.Weight
		over       float32
		code       int
	}{
		{nil, nil, 0, 0}, {exampleWeights(), nil, 5, 0}, {nil, exampleWeights(), 5, 0}, {exampleWeights(), exampleWeights(), 20, 0}, {exampleWeights(), []impl.Weight{weightOf(-1, 0, 2), weightOf(0, -1, 1)}, 0, 0},
		{evenWeights(20, 1, 0, 1), nil, 400, 0}, {nil, evenWeights(20, 0, 1, 1), 400, 0}, {evenWeights(19, 1, 0, 1), evenWeights(1, 0, 1, 1), 362, 0}, {evenWeights(10, 1, 0, 1), evenWeights(10, 0, 1, 1), 200, 0}, {evenWeights(10, plainest, 0, plainest), evenWeights(10, plainest, 0, plainest), 400 * (1 << 40) * (1 << 40), 0},
		{evenWeights(20, 1, 0, 1), evenWeights(1, 0, 1, 1), 0, impl.ErrLimit}, {evenWeights(1, 1, 0, 1), evenWeights(20, 0, 1, 1), 0, impl.ErrLimit}, {evenWeights(11, 1, 0, 1), evenWeights(10, 0, 0, 0), 0, impl.ErrLimit}, {evenWeights(20, 0, 0, 0), evenWeights(20, 0, 0, 0), 0, impl.ErrLimit},
		{evenWeights(1, negZero, negZero, 1), evenWeights(1, negZero, -1, 0), 0, 0}, {evenWeights(1, tiny, 1, 1), evenWeights(1, 0, -1, 1), 0, 0},
	}
	for _, c := range cases {
		over, code := impl.LeftOver(c.list, c.more)
		expect(t, "LeftOver "+show(c), show(over, code), show(c.over, c.code))
	}
}

func TestBestPlaces(t *testing.T) {
	pairs, none := map[[2]int]int{}, 0
	for _, list := range someWeights(10000) {
		first, second, least, code := impl.BestPlaces(list)
		want, wantCode := wantBestPlaces(list)
		expect(t, "BestPlaces "+show(list), show(first, second, least, code), show(want.first, want.second, want.sum, wantCode))
		if wantCode != 0 {
			none++
			continue
		}
		pairs[[2]int{want.first, want.second}]++
	}
	if len(pairs) < 15 || none < 100 {
		t.Errorf("there are too few kinds of places: %v, and %v times none", pairs, none)
	}
}

func TestBestPlacesAtLimits(t *testing.T) {
	one := func(east, north, mass float32) []impl.Weight { return evenWeights(1, east, north, mass) }
	cases := []struct {
		list          []impl.Weight
		first, second int
		least         float32
		code          int
	}{
		{nil, 0, 1, 0, 0}, {evenWeights(20, 0, 0, 0), 0, 1, 0, 0}, {evenWeights(20, negZero, negZero, negZero), 0, 1, 0, 0}, {exampleWeights(), 4, 5, sum(1, quotient(1, slant)), 0},
		// Where one place is just opposite, the first ones are those with this place, and one of no mass.
		{one(1, 0, 2), 1, 4, 2, 0}, {one(0, 1, 2), 0, 6, 2, 0}, {one(-1, 0, 2), 0, 1, 2, 0}, {one(0, -1, 2), 0, 2, 2, 0}, {one(slant, slant, 2), 0, 5, 2, 0}, {one(-slant, slant, 2), 0, 7, 2, 0}, {one(-slant, -slant, 2), 0, 1, 2, 0}, {one(slant, -slant, 2), 0, 3, 2, 0},
		{one(1, 0, plainest), 1, 4, plainest, 0}, {one(-1, 0, plainest), 0, 1, plainest, 0}, {one(plainest, 0, above(1)), 3, 5, 2 * quotient(product(above(plainest), slant), 2*slant*slant), 0}, {one(plainest, 0, 1.5), 0, 0, 0, impl.ErrNotFound}, {one(plainest, 0, plainest), 0, 0, 0, impl.ErrNotFound}, {evenWeights(20, 1, 1, plainest), 0, 0, 0, impl.ErrNotFound},
		// The sum need not be plain, nor both masses greater than 0.
		{[]impl.Weight{weightOf(1, 0, plainest), weightOf(slant, slant, plainest/2)}, 4, 5, plainest + plainest/2, 0}, {[]impl.Weight{weightOf(1, 0, plainest), weightOf(slant, slant, plainest)}, 4, 5, 2 * plainest, 0}, {[]impl.Weight{weightOf(-1, 0, tiny)}, 0, 1, tiny, 0},
	}
	for _, c := range cases {
		first, second, least, code := impl.BestPlaces(c.list)
		expect(t, "BestPlaces "+show(c.list), show(first, second, least, code), show(c.first, c.second, c.least, c.code))
		want, wantCode := wantBestPlaces(c.list)
		expect(t, "wanted "+show(c.list), show(want, wantCode), show(twoPlaces{c.first, c.second, c.least}, c.code))
	}
}

func TestSwingsOf(t *testing.T) {
	list := someReadings(10000)
	for _, readings := range list {
		swings, code := impl.SwingsOf(readings)
		expect(t, "SwingsOf "+show(readings), show(swings, code), show(wantSwings(readings), 0))
	}
	// with is the swings with other places, or in another order.
	with := func(place func(n, k int) complex64, from, step int) func([8]float32) float32 {
		return func(readings [8]float32) float32 {
			swing := complex64(0)
			for i := range 8 {
				k := from + step*i
				swing = wantPlus(swing, wantPart(place(1, k), readings[k]))
			}
			return imag(swing)
		}
	}
	told := func(n, k int) complex64 { return wantPlaces()[(8-n*k%8)%8] }
	north := func(readings [8]float32) float32 { return imag(wantSwings(readings)[1]) }
	for _, readings := range list[:100] {
		expect(t, "the places that are told", show(with(told, 0, 1)(readings)), show(north(readings)))
	}
	tellsApart(t, "from the last reading on", list, north, with(told, 7, -1))
	tellsApart(t, "against the clock", list, north, with(func(n, k int) complex64 { return wantPlaces()[n*k%8] }, 0, 1))
	tellsApart(t, "places that are nearer to the circle", list, north, with(func(n, k int) complex64 {
		north, east := math.Sincos(-math.Pi / 4 * float64(n*k))
		return complex(float32(east), float32(north))
	}, 0, 1))
}

func TestSwingsAtLimits(t *testing.T) {
	swings, code := impl.SwingsOf(exampleReadings())
	expect(t, "the example", show(swings, code), show([8]complex64{2: 4, 6: 4}, 0))
	for _, none := range []float32{0, negZero} {
		swings, code = impl.SwingsOf([8]float32{none, none, none, none, none, none, none, none})
		expect(t, "no readings", show(swings, code), show([8]complex64{}, 0))
	}
	for _, even := range []float32{1, -1, 3, plainest, -plainest, tiny} {
		swings, code = impl.SwingsOf([8]float32{even, even, even, even, even, even, even, even})
		if even == tiny {
			// Each slanting part of the least number is rounded to it.
			expect(t, "the least readings", show(swings[0], swings[2], code), show(complex64(complex(8*tiny, 0)), complex64(0), 0))
			continue
		}
		expect(t, "even readings", show(swings, code), show([8]complex64{complex(8*even, 0)}, 0))
	}
	for _, size := range []float32{1, -1, plainest, -plainest} {
		for k := range 8 {
			var readings [8]float32
			readings[k] = size
			swings, code := impl.SwingsOf(readings)
			var want [8]complex64
			for n := range want {
				// To add 0 makes 0 of -0.
				want[n] = wantPlus(0, wantPart(wantPlaces()[(64-n*k)%8], size))
			}
			expect(t, "a lone reading", show(swings, code), show(want, 0))
		}
	}
}

func TestReadingsFrom(t *testing.T) {
	list := someSwings(10000)
	for _, swings := range list {
		readings, code := impl.ReadingsFrom(swings)
		expect(t, "ReadingsFrom "+show(swings), show(readings, code), show(wantReadings(swings), 0))
	}
	// with is the reading 1 with other products, or in another order.
	with := func(times func(a, b complex64) complex64, from, step int) func([8]complex64) float32 {
		return func(swings [8]complex64) float32 {
			whole := complex64(0)
			for i := range 8 {
				n := from + step*i
				whole = wantPlus(whole, times(swings[n], wantPlaces()[n]))
			}
			return quotient(real(whole), 8)
		}
	}
	one := func(swings [8]complex64) float32 { return wantReadings(swings)[1] }
	for _, swings := range list[:100] {
		expect(t, "the products that are told", show(with(wantTimes, 0, 1)(swings)), show(one(swings)))
	}
	tellsApart(t, "from the last swing on", list, one, with(wantTimes, 7, -1))
	tellsApart(t, "products of the language", list, one, with(func(a, b complex64) complex64 { return a * b }, 0, 1))
	tellsApart(t, "with the clock", list, one, with(func(a, b complex64) complex64 { return wantTimes(a, complex(real(b), -imag(b))) }, 0, 1))
}

func TestReadingsAtLimits(t *testing.T) {
	even := func(a float32) [8]float32 { return [8]float32{a, a, a, a, a, a, a, a} }
	cases := []struct {
		swings [8]complex64
		want   [8]float32
	}{
		{[8]complex64{}, even(0)}, {[8]complex64{8}, even(1)}, {[8]complex64{-8}, even(-1)}, {[8]complex64{complex(0, 8)}, even(0)}, {[8]complex64{complex(negZero, negZero)}, even(0)}, {[8]complex64{complex(plainest, -plainest)}, even(plainest / 8)},
		{[8]complex64{2: 4, 6: 4}, exampleReadings()}, {[8]complex64{4: 8}, [8]float32{1, -1, 1, -1, 1, -1, 1, -1}}, {[8]complex64{4: complex(0, 8)}, even(0)}, {[8]complex64{2: 8}, [8]float32{1, 0, -1, 0, 1, 0, -1, 0}}, {[8]complex64{2: complex(0, 8)}, [8]float32{0, -1, 0, 1, 0, -1, 0, 1}}, {[8]complex64{6: complex(0, 8)}, [8]float32{0, 1, 0, -1, 0, 1, 0, -1}},
		{[8]complex64{1: 8}, [8]float32{1, slant, 0, -slant, -1, -slant, 0, slant}}, {[8]complex64{1: complex(0, 8)}, [8]float32{0, -slant, -1, -slant, 0, slant, 1, slant}}, {[8]complex64{3: 8}, [8]float32{1, -slant, 0, slant, -1, slant, 0, -slant}},
		// An eighth of the least numbers is rounded to 0, which keeps the sign, or to the least number.
		{[8]complex64{complex(tiny, 0)}, even(0)}, {[8]complex64{complex(-tiny, 0)}, even(negZero)}, {[8]complex64{complex(4*tiny, 0)}, even(0)}, {[8]complex64{complex(-4*tiny, 0)}, even(negZero)}, {[8]complex64{complex(5*tiny, 0)}, even(tiny)}, {[8]complex64{complex(12*tiny, 0)}, even(2 * tiny)},
		// The sum is divided, not each part of it.
		{[8]complex64{complex(4*tiny, 0), 4: complex(4*tiny, 0)}, [8]float32{tiny, 0, tiny, 0, tiny, 0, tiny, 0}},
	}
	for _, c := range cases {
		readings, code := impl.ReadingsFrom(c.swings)
		expect(t, "ReadingsFrom "+show(c.swings), show(readings, code), show(c.want, 0))
	}
}

func TestStrongestSwing(t *testing.T) {
	orders := map[int]int{}
	for _, readings := range someReadings(10000) {
		order, most, code := impl.StrongestSwing(readings)
		want, wantMost := wantStrongest(readings)
		expect(t, "StrongestSwing "+show(readings), show(order, most, code), show(want, wantMost, 0))
		orders[want]++
	}
	if len(orders) != 4 || orders[4] < 500 {
		t.Errorf("there are too few orders: %v", orders)
	}
	cases := []struct {
		readings [8]float32
		order    int
		most     float32
	}{
		{[8]float32{}, 1, 0}, {exampleReadings(), 2, 16}, {[8]float32{5, 5, 5, 5, 5, 5, 5, 5}, 1, 0}, {[8]float32{1, -1, 1, -1, 1, -1, 1, -1}, 4, 64}, {[8]float32{plainest, -plainest, plainest, -plainest, plainest, -plainest, plainest, -plainest}, 4, 1 << 46},
		// The first one of several.
		{[8]float32{1}, 1, 1}, {[8]float32{0, 0, 1}, 1, 1}, {[8]float32{1, 0, 0, 0, 1}, 2, 4}, {[8]float32{1, 0, 1, 0, 1, 0, 1}, 4, 16}, {[8]float32{1, 0, 0, 0, -1}, 1, 4}, {[8]float32{0, 1}, 2, 1}, {[8]float32{0, 0, 0, negZero, 0, 0, 0, tiny}, 1, 0},
	}
	for _, c := range cases {
		order, most, code := impl.StrongestSwing(c.readings)
		expect(t, "StrongestSwing "+show(c.readings), show(order, most, code), show(c.order, c.most, 0))
	}
}

func TestRangesOfReadingsAndSwings(t *testing.T) {
	for i := range 8 {
		for _, x := range notPlains {
			readings := [8]float32{1, 2, 3, 4, 5, 6, 7, 8}
			readings[i] = x
			swings, one := impl.SwingsOf(readings)
			order, most, two := impl.StrongestSwing(readings)
			expect(t, "no readings "+show(readings), show(swings, one, order, most, two), show([8]complex64{}, 2, 0, 0, 2))
		}
		for _, a := range notPoints() {
			swings := [8]complex64{1, 2, 3, 4, 5, 6, 7, 8}
			swings[i] = a
			readings, code := impl.ReadingsFrom(swings)
			expect(t, "no swings "+show(swings), show(readings, code), show([8]float32{}, 2))
		}
	}
}

func TestValidLine(t *testing.T) {
	for _, line := range someLines(2000) {
		if !impl.ValidLine(line) {
			t.Errorf("%v is not valid", line)
		}
	}
	for _, line := range badLines() {
		if impl.ValidLine(line) {
			t.Errorf("%v is valid", line)
		}
	}
}

func TestAnswerOf(t *testing.T) {
	list := someSpeeds(20000)
	for _, c := range list {
		for _, square := range []float32{c.low, c.high} {
			swings, twists, code := impl.AnswerOf(c.line, square)
			wantSwings, wantTwists := wantAnswer(c.line, square)
			expect(t, "AnswerOf "+show(c.line, square), show(swings, twists, code), show(wantSwings, wantTwists, 0))
		}
	}
	last := func(c lineCase) float32 { return wantTwist(c.line, c.low) }
	list = slices.DeleteFunc(list, func(c lineCase) bool { return !isPlain(last(c)) })
	// with is the last twist if the next twist is found otherwise.
	with := func(next func(twist, square, inertia, swing float32) float32) func(lineCase) float32 {
		return func(c lineCase) float32 {
			swing, twist := float32(1), float32(0)
			for i, disc := range c.line {
				if i > 0 {
					swing = sum(swing, quotient(twist, c.line[i-1].Stiff))
				}
				twist = next(twist, c.low, disc.Inertia, swing)
			}
			return twist
		}
	}
	tellsApart(t, "a product that is not rounded", list, last, with(func(twist, square, inertia, swing float32) float32 {
		return rounds(float64(twist) - float64(product(square, inertia))*float64(swing))
	}))
	tellsApart(t, "the inertia with the swing first", list, last, with(func(twist, square, inertia, swing float32) float32 {
		return difference(twist, product(square, product(inertia, swing)))
	}))
	tellsApart(t, "the square with the swing first", list, last, with(func(twist, square, inertia, swing float32) float32 {
		return difference(twist, product(product(square, swing), inertia))
	}))
	tellsApart(t, "a square that is not rounded", list, last, with(func(twist, square, inertia, swing float32) float32 {
		return difference(twist, rounds(float64(square)*float64(inertia)*float64(swing)))
	}))
	tellsApart(t, "the next stiffness", list, last, func(c lineCase) float32 {
		line := slices.Clone(c.line)
		for i := range line[1:] {
			line[i].Stiff = c.line[i+1].Stiff
		}
		return wantTwist(line, c.low)
	})
}

func TestAnswersAtLimits(t *testing.T) {
	cases := []struct {
		line           []impl.Disc
		square         float32
		swings, twists []float32
	}{
		{exampleLine(), 0, []float32{1, 1}, []float32{0, 0}}, {exampleLine(), negZero, []float32{1, 1}, []float32{0, 0}}, {exampleLine(), 4, []float32{1, -1}, []float32{-4, 0}}, {exampleLine(), 2, []float32{1, 0}, []float32{-2, -2}}, {exampleLine(), 1, []float32{1, 0.5}, []float32{-1, -1.5}}, {exampleLine(), 8, []float32{1, -3}, []float32{-8, 16}},
		// The first twist is no -0, and small ones change no swing.
		{exampleLine(), tiny, []float32{1, 1}, []float32{-tiny, -2 * tiny}}, {evenLine(3, leastInertia, 1), tiny, []float32{1, 1, 1}, []float32{0, 0, 0}}, {evenLine(3, leastInertia, 1), 64 * tiny, []float32{1, 1, 1}, []float32{-tiny, -2 * tiny, -3 * tiny}},
		// What is stiff behind the last disc does not matter.
		{[]impl.Disc{discOf(1, 2), discOf(1, plainest)}, 4, []float32{1, -1}, []float32{-4, 0}}, {[]impl.Disc{discOf(1, 2), discOf(1, leastStiff)}, 4, []float32{1, -1}, []float32{-4, 0}},
		{[]impl.Disc{discOf(1, 4), discOf(2, 1), discOf(4, 1)}, 4, []float32{1, 0, -4}, []float32{-4, -4, 60}}, {[]impl.Disc{discOf(1, 4), discOf(2, 1), discOf(0.5, 8)}, 8, []float32{1, -1, 7}, []float32{-8, 8, -20}},
		{evenLine(2, greatestInertia, leastStiff), plainest, []float32{1, -(1 << 36)}, []float32{-(1 << 30), 1 << 66}}, {evenLine(2, leastInertia, plainest), plainest, []float32{1, 1 - 1.0/64}, []float32{-(1 << 14), -(1 << 14) - (1<<14 - 1<<8)}},
		// Great answers become infinite, and then are no numbers.
		{evenLine(6, greatestInertia, leastStiff), plainest, []float32{1, -(1 << 36), 1 << 72, -(1 << 108), inf, nan}, []float32{-(1 << 30), 1 << 66, -(1 << 102), inf, nan, nan}},
	}
	for _, c := range cases {
		swings, twists, code := impl.AnswerOf(c.line, c.square)
		expect(t, "AnswerOf "+show(c.line, c.square), show(swings, twists, code), show(c.swings, c.twists, 0))
		wantSwings, wantTwists := wantAnswer(c.line, c.square)
		expect(t, "wanted "+show(c.line, c.square), show(wantSwings, wantTwists), show(c.swings, c.twists))
	}
}

func TestCrossingsOf(t *testing.T) {
	counts := map[int]int{}
	for _, c := range someSpeeds(20000) {
		for _, square := range []float32{c.low, c.high} {
			crossings, code := impl.CrossingsOf(c.line, square)
			want, wantCode := wantCrossings(c.line, square)
			expect(t, "CrossingsOf "+show(c.line, square), show(crossings, code), show(want, wantCode))
			if wantCode != 0 {
				want = -1
			}
			counts[want]++
		}
	}
	if len(counts) < 8 || counts[-1] < 1000 || counts[0] < 1000 || counts[2] < 1000 {
		t.Errorf("there are too few numbers of crossings: %v", counts)
	}
}

func TestCrossingsAtLimits(t *testing.T) {
	two := func(stiff float32) []impl.Disc { return []impl.Disc{discOf(2, stiff), discOf(1, 1)} }
	cases := []struct {
		line      []impl.Disc
		square    float32
		crossings int
		code      int
	}{
		{exampleLine(), 0, 0, 0}, {exampleLine(), negZero, 0, 0}, {exampleLine(), 4, 1, 0}, {exampleLine(), above(2), 1, 0}, {exampleLine(), below(2), 0, 0},
		// A swing of 0 has no sign.
		{exampleLine(), 2, 0, 0}, {evenLine(10, 1, 1), 1, 0, 0}, {[]impl.Disc{discOf(1, 4), discOf(2, 1), discOf(4, 1)}, 4, 0, 0}, {[]impl.Disc{discOf(1, 4), discOf(2, 1), discOf(4, 15), discOf(1, 1)}, 4, 0, 0}, {[]impl.Disc{discOf(1, 4), discOf(2, 1), discOf(4, 8), discOf(1, 1)}, 4, 1, 0},
		{evenLine(10, 1, 1), 3, 6, 0}, {evenLine(10, 1, 1), 4, 9, 0}, {evenLine(10, 1, 1), below(1), 3, 0}, {evenLine(10, 1, 4), 1, 2, 0},
		// The swings are plain up to the limit.
		{two(1), 524288.5, 1, 0}, {two(1), 524288.5625, 0, impl.ErrState}, {two(1), plainest, 0, impl.ErrState}, {two(2), plainest, 1, 0}, {two(leastStiff), plainest, 0, impl.ErrState}, {evenLine(6, greatestInertia, leastStiff), plainest, 0, impl.ErrState}, {evenLine(10, greatestInertia, leastStiff), plainest, 0, impl.ErrState},
	}
	for _, c := range cases {
		crossings, code := impl.CrossingsOf(c.line, c.square)
		expect(t, "CrossingsOf "+show(c.line, c.square), show(crossings, code), show(c.crossings, c.code))
		want, wantCode := wantCrossings(c.line, c.square)
		expect(t, "wanted "+show(c.line, c.square), show(want, wantCode), show(c.crossings, c.code))
	}
}

func TestLoneSpeed(t *testing.T) {
	codes := map[int]int{}
	for _, c := range someSpeeds(20000) {
		lone, code := impl.LoneSpeed(c.line, c.low, c.high)
		want, wantCode := wantLone(c.line, c.low, c.high, 40)
		expect(t, "LoneSpeed "+show(c), show(lone, code), show(want, wantCode))
		codes[wantCode]++
	}
	if codes[0] < 5000 || codes[impl.ErrNotFound] < 5000 {
		t.Errorf("there are too few codes of a kind: %v", codes)
	}
}

// The speed of two heavy discs with a soft shaft is so slow that the halvings do
// not settle.
func TestNumberOfHalvingsOfSpeeds(t *testing.T) {
	fewer, more := 0, 0
	for i := range 100 {
		line := []impl.Disc{discOf(greatestInertia-float32(i), leastStiff), discOf(greatestInertia, 1)}
		lone, code := impl.LoneSpeed(line, tiny, plainest)
		want, wantCode := wantLone(line, tiny, plainest, 40)
		expect(t, "LoneSpeed "+show(line), show(lone, code), show(want, wantCode))
		if less, _ := wantLone(line, tiny, plainest, 39); less != want {
			fewer++
		}
		if greater, _ := wantLone(line, tiny, plainest, 41); greater != want {
			more++
		}
		if code != 0 {
			t.Errorf("%v has no lone speed: %v", line, code)
		}
	}
	if fewer == 0 || more == 0 {
		t.Errorf("no speed tells 40 halvings from 39 (%v) and from 41 (%v)", fewer, more)
	}
}

func TestLoneSpeedAtLimits(t *testing.T) {
	great := evenLine(6, greatestInertia, leastStiff)
	cases := []struct {
		line            []impl.Disc
		low, high, want float32
		code            int
	}{
		// At the square 4 the twist is 0, which has no sign: it becomes high.
		{exampleLine(), 1, 7, below(4), 0}, {exampleLine(), 3, 5, below(4), 0}, {exampleLine(), tiny, plainest, 4 - 1.0/(1<<20), 0}, {exampleLine(), below(4), above(4), below(4), 0}, {exampleLine(), 3, 4, 0, impl.ErrNotFound}, {exampleLine(), 4, 5, 0, impl.ErrNotFound}, {exampleLine(), below(4), 4, 0, impl.ErrNotFound}, {exampleLine(), 4, plainest, 0, impl.ErrNotFound},
		{exampleLine(), 1, 3, 0, impl.ErrNotFound}, {exampleLine(), 5, 7, 0, impl.ErrNotFound}, {exampleLine(), 0, 7, 0, impl.ErrNotFound}, {exampleLine(), negZero, 7, 0, impl.ErrNotFound}, {exampleLine(), 0, tiny, 0, impl.ErrNotFound}, {exampleLine(), negZero, tiny, 0, impl.ErrNotFound}, {exampleLine(), tiny, 2 * tiny, 0, impl.ErrNotFound},
		// Between these there are two lone speeds, 1 and 3: the twists have the same sign.
		{evenLine(3, 1, 1), 0.5, 3.5, 0, impl.ErrNotFound}, {evenLine(3, 1, 1), 0.5, 1.75, below(1), 0}, {evenLine(3, 1, 1), 1.5, 3.5, below(3), 0},
		// An infinite twist has a sign, but NaN has none.
		{great[:4], tiny, plainest, 0, 0}, {great, tiny, plainest, 0, impl.ErrNotFound}, {great, plainest / 2, plainest, 0, impl.ErrNotFound},
	}
	for _, c := range cases {
		lone, code := impl.LoneSpeed(c.line, c.low, c.high)
		want, wantCode := wantLone(c.line, c.low, c.high, 40)
		expect(t, "LoneSpeed "+show(c), show(lone, code), show(want, wantCode))
		if c.code != wantCode || c.want != 0 && c.want != want {
			t.Errorf("%v: wanted %v (%v)", c, want, wantCode)
		}
	}
}

// A square whose twist is NaN, between one that is less than 0 and one that is
// greater, becomes high. With the greatest square the second disc stands still,
// nearly, so that the next ones swing less than with lesser squares.
func TestLoneSpeedWithNoNumbers(t *testing.T) {
	p, nothing, infinite := picker(143), 0, 0
	for range 40000 {
		low, high := p.between(1.0/1024, 1), p.between(1024, plainest)
		line := []impl.Disc{discOf(leastInertia, product(high, leastInertia)), discOf(greatestInertia, p.between(leastStiff, 64))}
		for range p.below(9) {
			line = append(line, discOf(p.between(leastInertia, greatestInertia), p.between(leastStiff, plainest)))
		}
		lone, code := impl.LoneSpeed(line, low, high)
		want, wantCode := wantLone(line, low, high, 40)
		expect(t, "LoneSpeed "+show(line, low, high), show(lone, code), show(want, wantCode))
		if wantCode != 0 {
			continue
		}
		middle := wantTwist(line, quotient(sum(low, high), 2))
		if middle != middle {
			nothing++
		}
		if math.IsInf(float64(wantTwist(line, high)), 0) {
			infinite++
		}
	}
	if nothing < 100 || infinite < 100 {
		t.Errorf("only %v twists in the middle are NaN, and %v at the end infinite", nothing, infinite)
	}
}

func TestErrorsOfBadWeights(t *testing.T) {
	for _, bad := range badWeights() {
		for _, a := range append(notPoints(), 0, complex(-1, 0), complex(0, tiny)) {
			pull, c1 := impl.PullOfWeights(bad)
			mass, left, c2 := impl.BalanceAt(bad, a)
			one, two, c3 := impl.BalanceWith(bad, a, a)
			three, four, c4 := impl.BalanceWith(bad, complex(-1, 0), a)
			first, second, least, c5 := impl.BestPlaces(bad)
			expect(t, "bad weights", show(pull, c1, mass, left, c2, one, two, c3, three, four, c4, first, second, least, c5), show(complex64(0), 1, 0, complex64(0), 1, 0, 0, 1, 0, 0, 1, 0, 0, 0, 1))
		}
		// ErrInvalid is found before ErrLimit, whichever list is not valid.
		for _, count := range []int{0, 1, 19, 20} {
			good := evenWeights(count, 1, 0, 1)
			left, one := impl.LeftOver(bad, good)
			over, two := impl.LeftOver(good, bad)
			both, three := impl.LeftOver(bad, bad)
			expect(t, "bad weights", show(left, one, over, two, both, three), show(0, 1, 0, 1, 0, 1))
		}
	}
}

func TestRangesOfBalance(t *testing.T) {
	for _, a := range notPoints() {
		for _, list := range [][]impl.Weight{nil, exampleWeights(), evenWeights(20, 1, 0, 1)} {
			mass, left, c1 := impl.BalanceAt(list, a)
			one, two, c2 := impl.BalanceWith(list, a, complex(0, -1))
			three, four, c3 := impl.BalanceWith(list, complex(-1, 0), a)
			// ErrRange is found before ErrState and ErrNotFound.
			five, six, c4 := impl.BalanceWith(list, a, a)
			seven, eight, c5 := impl.BalanceWith(list, a, 0)
			nine, ten, c6 := impl.BalanceWith(list, complex(1, 0), a)
			got := show(mass, left, c1, one, two, c2, three, four, c3, five, six, c4, seven, eight, c5, nine, ten, c6)
			expect(t, "no point "+show(a), got, show(0, complex64(0), 2, 0, 0, 2, 0, 0, 2, 0, 0, 2, 0, 0, 2, 0, 0, 2))
		}
	}
	// Points that are at the limits are points.
	for _, a := range []complex64{complex(plainest, -plainest), complex(-plainest, plainest)} {
		_, _, one := impl.BalanceAt(exampleWeights(), a)
		_, _, two := impl.BalanceWith(nil, a, complex(plainest, plainest))
		expect(t, "a point "+show(a), show(one, two), show(0, 0))
	}
}

func TestErrorsOfLines(t *testing.T) {
	expectNoLine := func(line []impl.Disc, low, high float32, want int) {
		t.Helper()
		swings, twists, one := impl.AnswerOf(line, low)
		crossings, two := impl.CrossingsOf(line, low)
		lone, three := impl.LoneSpeed(line, low, high)
		back, four := impl.LoneSpeed(line, high, low)
		expect(t, "no line "+show(line, low, high), show(len(swings), len(twists), one, crossings, two, lone, three, back, four), show(0, 0, want, 0, want, 0, want, 0, want))
	}
	for _, bad := range badLines() {
		for _, x := range append([]float32{0, 4, plainest}, notSizes...) {
			expectNoLine(bad, x, 5, impl.ErrInvalid)
			expectNoLine(bad, x, x, impl.ErrInvalid)
		}
	}
	// ErrRange is found before ErrState and ErrNotFound.
	for _, line := range [][]impl.Disc{exampleLine(), evenLine(10, greatestInertia, leastStiff)} {
		for _, x := range notSizes {
			for _, high := range []float32{0, 4, plainest, x} {
				expectNoLine(line, x, high, impl.ErrRange)
			}
		}
		squares := []float32{negZero, 0, tiny, 1, 3, 5, plainest}
		for i, high := range squares {
			for _, low := range squares[:i+1] {
				lone, code := impl.LoneSpeed(line, high, low)
				expect(t, "LoneSpeed "+show(line, high, low), show(lone, code), show(0, impl.ErrRange))
			}
		}
		lone, code := impl.LoneSpeed(line, negZero, 0)
		expect(t, "LoneSpeed of no speeds", show(lone, code), show(0, impl.ErrRange))
	}
	// The limits are reached exactly.
	for _, square := range []float32{0, negZero, plainest} {
		_, _, one := impl.AnswerOf(exampleLine(), square)
		_, two := impl.CrossingsOf(exampleLine(), min(square, 1024))
		expect(t, "a square", show(one, two), show(0, 0))
	}
	lone, code := impl.LoneSpeed(exampleLine(), below(plainest), plainest)
	expect(t, "the greatest squares", show(lone, code), show(0, impl.ErrNotFound))
}

func TestPointTexts(t *testing.T) {
	cases := []struct {
		a    complex64
		text string
	}{
		{complex(1, -2), "3f800000 c0000000"}, {0, "00000000 00000000"}, {complex(negZero, 0), "80000000 00000000"}, {complex(0, negZero), "00000000 80000000"}, {complex(negZero, negZero), "80000000 80000000"}, {complex(tiny, -tiny), "00000001 80000001"},
		{complex(inf, -inf), "7f800000 ff800000"}, {complex(nan, 1), "7fc00000 3f800000"}, {complex(1, nan), "3f800000 7fc00000"}, {complex(otherNaN, otherNaN), "7fc00000 7fc00000"}, {complex(slant, -slant), "3f350000 bf350000"}, {complex(plainest, above(plainest)), "49800000 49800001"},
	}
	for _, c := range cases {
		expect(t, "PointText", impl.PointText(c.a), c.text)
		read, code := impl.ReadPoint(c.text)
		expect(t, "ReadPoint "+c.text, show(read, code), show(c.a, 0))
	}
	p := picker(144)
	for range 20000 {
		a := p.anyComplex()
		text := impl.PointText(a)
		read, code := impl.ReadPoint(text)
		expect(t, "a point from its text "+text, show(read, code), show(a, 0))
		if !impl.SamePoint(read, a) || len(text) != 17 || text != impl.NumberText(real(a))+" "+impl.NumberText(imag(a)) {
			t.Errorf("%v has the text %q, which is read as %v", a, text, read)
		}
	}
}

func TestTextsOfNoPoint(t *testing.T) {
	texts := []string{
		"", " ", "  ", "x", "3f800000", "3f800000 ", " 3f800000", " 3f800000 c0000000", "3f800000 c0000000 ", "3f800000  c0000000", "3f800000 c0000000 3f800000", "3f800000\tc0000000", "3f800000\nc0000000", "3f800000 c0000000\n", "\n3f800000 c0000000", "3f800000,c0000000", "3f800000c0000000", "3f800000\u00a0c0000000",
		"3F800000 c0000000", "3f800000 C0000000", "3f80000 c0000000", "3f800000 c000000", "03f800000 c0000000", "3f800000 0c0000000", "3f80000g c0000000", "3f800000 c000000g", "+f800000 c0000000", "3f800000 -0000000", "0x3f8000 c0000000", "3f8_0000 c0000000", "1 -2", "(1-2i)", "3f800000+c0000000i", "3f800000 c0000000i",
		"7fc00001 3f800000", "3f800000 7fc00001", "ffc00000 3f800000", "3f800000 ffc00000", "7f800001 00000000", "00000000 ffffffff", "NaN NaN", "\xff800000 c0000000", "3f800000 c000000\xff", "3f800000 c0000000\x00", "\x003f800000 c0000000",
		strings.Repeat(" ", 1000000), strings.Repeat("3", 1000000), strings.Repeat("3f800000 ", 111111), "3f800000 " + strings.Repeat("0", 999000), strings.Repeat("0", 999000) + " 3f800000", "3f800000 c0000000" + strings.Repeat(" ", 999000),
	}
	for _, text := range texts {
		read, code := impl.ReadPoint(text)
		if show(read) != show(complex64(0)) || code != impl.ErrSyntax {
			t.Errorf("ReadPoint of %.60q: got %v %v", text, read, code)
		}
	}
}
