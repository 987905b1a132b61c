package tests

import (
	"fmt"
	"math"
	"slices"
	"sync"
	"testing"

	"loop.example/g01344/impl"
)

// show tells all values apart that the document tells apart (0 and -0, too),
// and none that it does not (NaN of other bits, nil and empty slices).
func show(list ...any) string { return fmt.Sprintln(list...) }

// expect compares results with what is wanted, both being told as values.
func expect(t *testing.T, name string, got, want string) {
	t.Helper()
	if got != want {
		t.Errorf("%s: got %s want %s", name, got, want)
	}
}

// Numbers at which rounding, signs and limits matter.
var (
	negZero  = float32(math.Copysign(0, -1))
	nan      = float32(math.NaN())
	otherNaN = math.Float32frombits(0xffc00123)
	inf      = float32(math.Inf(1))
	tiny     = float32(math.SmallestNonzeroFloat32)
)

// above returns the next greater number.
func above(a float32) float32 { return math.Nextafter32(a, inf) }

// below returns the next lesser number.
func below(a float32) float32 { return math.Nextafter32(a, -inf) }

// plainest is the greatest plain number.
const plainest = float32(1048576)

// isPlain and isPart are told by the document, not by the package.
func isPlain(a float32) bool { return -plainest <= a && a <= plainest }

func isPart(a float32) bool { return 0 <= a && a <= 1 }

// isSize tells whether a number is at least 0, and plain.
func isSize(a float32) bool { return 0 <= a && a <= plainest }

// notSizes are numbers that isSize is not true of.
var notSizes = []float32{-tiny, -1, above(plainest), inf, -inf, nan, otherNaN}

// noParts are numbers that isPart is not true of.
var noParts = []float32{-tiny, above(1), 2, inf, -inf, nan, otherNaN}

// rounds is a product, quotient, sum or difference of two narrow numbers that
// was made wide. There is no need to round it once more for wide numbers: they
// have more than twice the digits.
func rounds(wide float64) float32 { return float32(wide) }

func product(a, b float32) float32 { return rounds(float64(a) * float64(b)) }

func quotient(a, b float32) float32 { return rounds(float64(a) / float64(b)) }

func sum(a, b float32) float32 { return rounds(float64(a) + float64(b)) }

func difference(a, b float32) float32 { return rounds(float64(a) - float64(b)) }

// sameNumbers tells whether two numbers, none of which is NaN, are the same.
func sameNumbers(a, b float32) bool { return math.Float32bits(a) == math.Float32bits(b) }

// wantHalved halves as often as told: it looks for the number of which told is
// found, or nearly.
func wantHalved(low, high, told float32, times int, found func(float32) float32) float32 {
	for range times {
		middle := quotient(sum(low, high), 2)
		if found(middle) > told {
			high = middle
		} else {
			low = middle
		}
	}
	return low
}

// expectEqual expects equal results of equal arguments, each time.
func expectEqual[A any](t *testing.T, calls map[string]func(A) string, first, second A) {
	t.Helper()
	for name, call := range calls {
		once := call(first)
		expect(t, name+" of equal arguments", call(second), once)
		expect(t, name+" once more", call(first), once)
	}
}

// expectAtOnce expects equal results of calls that are made at once.
func expectAtOnce[A any](t *testing.T, calls map[string]func(A) string, arguments A) {
	t.Helper()
	var group sync.WaitGroup
	for name, call := range calls {
		once := call(arguments)
		for range 4 {
			group.Go(func() { expect(t, name+" at once", call(arguments), once) })
		}
	}
	group.Wait()
}

// tellsApart fails if a formula differs nowhere on a list from one that it must
// not be taken for: such a list could not tell both apart.
func tellsApart[E any](t *testing.T, name string, list []E, want, otherwise func(E) float32) {
	t.Helper()
	differs := func(e E) bool {
		a, b := want(e), otherwise(e)
		bothNaN := a != a && b != b
		return a != b && !bothNaN
	}
	if !slices.ContainsFunc(list, differs) {
		t.Errorf("nothing tells the formula from the other one: %s", name)
	}
}

// roomy returns a copy of a list with room behind it, which is filled.
func roomy[E any](list []E, filling E) []E {
	wide := append(slices.Clone(list), slices.Repeat([]E{filling}, 16)...)
	return wide[:len(list)]
}

// all shows a list with what is behind it.
func all[E any](list []E) string { return show(list, list[:cap(list)]) }

// picker picks numbers that look like chance, and are the same in each run.
type picker uint64

func (p *picker) below(n int) int {
	*p = *p*6364136223846793005 + 1442695040888963407
	return int(uint64(*p) >> 33 % uint64(n))
}

// between picks a number from low to high; small ones as often as great ones.
func (p *picker) between(low, high float32) float32 {
	part := float64(p.below(1<<20)) / (1 << 20)
	a := float32(float64(low) * math.Pow(float64(high)/float64(low), part))
	return min(max(a, low), high)
}

// upTo picks a number from 0 to a great one, often a limit or nearly none.
func (p *picker) upTo(greatest float32) float32 {
	switch p.below(12) {
	case 0:
		return 0
	case 1:
		return negZero
	case 2:
		return float32(p.below(20)) * tiny
	case 3:
		return greatest
	}
	return p.between(1.0/1024, greatest)
}

// oneOf picks one of a list.
func oneOf[E any](p *picker, list []E) E { return list[p.below(len(list))] }

// mostly picks one of a list of good ones, and sometimes one of bad ones.
func mostly[E any](p *picker, good, bad []E) E {
	if p.below(5) == 0 {
		return oneOf(p, bad)
	}
	return oneOf(p, good)
}

func (p *picker) teeth() int16 { return int16(6 + p.below(195)) }

func (p *picker) loss() float32 {
	switch p.below(8) {
	case 0:
		return 0
	case 1:
		return negZero
	case 2:
		return 1
	case 3:
		return tiny
	}
	return float32(p.below(1<<24)) / (1 << 24)
}

func (p *picker) train(pairs int) impl.Train {
	var t impl.Train
	for range pairs {
		t = append(t, impl.Pair{Driver: p.teeth(), Driven: p.teeth(), Loss: p.loss()})
	}
	return t
}

// plain picks a plain number of any size and sign, subnormal ones too.
func (p *picker) plain() float32 {
	for {
		a := math.Float32frombits(uint32(p.below(1<<30))<<2 | uint32(p.below(4)))
		if isPlain(a) {
			return a
		}
	}
}

// someTrains are valid trains of all lengths.
func someTrains(count int) []impl.Train {
	p := picker(1)
	list := []impl.Train{
		{{Driver: 12, Driven: 48, Loss: 0.5}, {Driver: 20, Driven: 10}},
		{{Driver: 6, Driven: 200}},
		{{Driver: 200, Driven: 6, Loss: 1}},
		repeated(impl.Pair{Driver: 6, Driven: 200, Loss: 0.25}, 8),
		repeated(impl.Pair{Driver: 200, Driven: 6, Loss: negZero}, 8),
	}
	for len(list) < count {
		list = append(list, p.train(1+p.below(8)))
	}
	return list
}

func pairOf(driver, driven int16, loss float32) impl.Pair {
	return impl.Pair{Driver: driver, Driven: driven, Loss: loss}
}

func repeated(p impl.Pair, count int) impl.Train {
	t := impl.Train{}
	for range count {
		t = append(t, p)
	}
	return t
}

// badTrains are trains that are not valid, each for one reason.
func badTrains() []impl.Train {
	good := impl.Pair{Driver: 12, Driven: 48, Loss: 0.5}
	list := []impl.Train{nil, {}, repeated(good, 9)}
	for _, teeth := range []int16{5, 201, 0, -12, math.MinInt16, math.MaxInt16} {
		list = append(list,
			impl.Train{{Driver: teeth, Driven: 48}},
			impl.Train{{Driver: 12, Driven: teeth}},
			impl.Train{good, good, {Driver: teeth, Driven: 48}},
			impl.Train{good, {Driver: 12, Driven: teeth}, good})
	}
	for _, loss := range []float32{above(1), -tiny, -1, 2, inf, -inf, nan, otherNaN} {
		list = append(list,
			impl.Train{{Driver: 12, Driven: 48, Loss: loss}},
			append(repeated(good, 7), impl.Pair{Driver: 12, Driven: 48, Loss: loss}))
	}
	return list
}
