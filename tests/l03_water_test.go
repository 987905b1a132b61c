package tests

import (
	"math"
	"slices"
	"strings"
	"testing"

	"loop.example/g01344/impl"
)

func TestConstantsOfWater(t *testing.T) {
	expect(t, "limits", show(impl.MaxGate, impl.MaxSpeed, impl.MaxTicks), show(16, 1024, 100))
	expect(t, "numbers", show(impl.Heavy, impl.Lever, float32(impl.Heavy), float32(impl.Lever)), show(9.8125, 0.625, 9.8125, 0.625))
}

func TestIsLength(t *testing.T) {
	for _, a := range []float32{leastLength, above(leastLength), 1, below(greatestLength), greatestLength} {
		if !impl.IsLength(a) {
			t.Errorf("%v is no length", a)
		}
	}
	for _, a := range notLengths {
		if impl.IsLength(a) {
			t.Errorf("%v is a length", a)
		}
	}
}

func TestValidMill(t *testing.T) {
	for _, g := range someGovernors(1000) {
		if !impl.ValidMill(g.Mill) {
			t.Errorf("%+v is not valid", g.Mill)
		}
	}
	for _, m := range badMills() {
		if impl.ValidMill(m) {
			t.Errorf("%+v is valid", m)
		}
	}
}

func TestValidGovernor(t *testing.T) {
	for _, g := range someGovernors(1000) {
		if !impl.ValidGovernor(g) {
			t.Errorf("%+v is not valid", g)
		}
	}
	for _, g := range badGovernors() {
		if impl.ValidGovernor(g) {
			t.Errorf("%+v is valid", g)
		}
	}
}

func TestValidState(t *testing.T) {
	for _, speed := range []float32{0, negZero, tiny, 1, below(fastest), fastest} {
		for gate := range int8(17) {
			if !impl.ValidState(stateOf(speed, gate)) {
				t.Errorf("%v with the gate %v is not valid", speed, gate)
			}
		}
	}
	for _, s := range badStates() {
		if impl.ValidState(s) {
			t.Errorf("%+v is valid", s)
		}
	}
}

func TestSameState(t *testing.T) {
	var list []impl.State
	for _, speed := range []float32{0, negZero, tiny, -tiny, 1, above(1), inf, -inf, nan} {
		for _, gate := range []int8{0, 1, 16, 17, -1, math.MinInt8} {
			list = append(list, stateOf(speed, gate))
		}
	}
	for i, a := range list {
		for j, b := range list {
			if impl.SameState(a, b) != (i == j) {
				t.Errorf("SameState of %+v and %+v is %v", a, b, i != j)
			}
		}
	}
	if !impl.SameState(stateOf(nan, 3), stateOf(otherNaN, 3)) {
		t.Errorf("NaN of other bits is not the same")
	}
}

func TestExampleOfWater(t *testing.T) {
	m := exampleMill()
	speed, one := impl.WaterSpeed(64)
	expect(t, "WaterSpeed", show(speed, one), show(float32(math.Sqrt(1256)), 0))
	power, two := impl.WaterPower(2, 4, 0.5)
	expect(t, "WaterPower", show(power, two), show(39.25, 0))
	fill, one := impl.FillOf(m, 16, 2)
	spilled, two := impl.SpilledBy(m, 16, 2)
	torque, three := impl.TorqueFrom(m, 16, 2)
	expect(t, "a speed of 2", show(fill, one, spilled, two, torque, three), show(1, 0, 0, 0, 98.125, 0))
	fill, one = impl.FillOf(m, 16, 0.5)
	spilled, two = impl.SpilledBy(m, 16, 0.5)
	expect(t, "a speed of 0.5", show(fill, one, spilled, two), show(2, 0, 8, 0))
	gate, one := impl.GateBehind(exampleGovernor(), stateOf(above(3), 0))
	expect(t, "GateBehind", show(gate, one), show(0, 0))
}

// heads are all kinds of heads: roots of neighbours show whether the last bit
// of a root is right.
func heads() []float32 {
	p := picker(42)
	list := []float32{leastLength, above(leastLength), 1, 4, 64, below(greatestLength), greatestLength}
	for range 5000 {
		list = append(list, p.between(leastLength, greatestLength))
	}
	return list
}

func TestWaterSpeed(t *testing.T) {
	for _, head := range heads() {
		speed, code := impl.WaterSpeed(head)
		expect(t, "WaterSpeed", show(speed, code), show(wantWaterSpeed(head), 0))
		// Squares of numbers between two narrow ones are exact as wide ones.
		square := float64(product(19.625, head))
		from, to := (float64(speed)+float64(below(speed)))/2, (float64(speed)+float64(above(speed)))/2
		if square < from*from || square > to*to {
			t.Errorf("%v is not the nearest root of %v", speed, square)
		}
	}
	tellsApart(t, "a square that is not rounded", heads(), wantWaterSpeed, func(head float32) float32 {
		return float32(math.Sqrt(19.625 * float64(head)))
	})
	tellsApart(t, "a product of roots", heads(), wantWaterSpeed, func(head float32) float32 {
		return product(float32(math.Sqrt(19.625)), float32(math.Sqrt(float64(head))))
	})
}

func TestFlowThrough(t *testing.T) {
	p := picker(43)
	for range 1000 {
		area, head := p.length(), p.length()
		for gate := range int64(17) {
			flow, code := impl.FlowThrough(area, head, gate)
			expect(t, "FlowThrough", show(flow, code), show(wantFlow(area, head, gate), 0))
		}
	}
	none, one := impl.FlowThrough(1, 4, 0)
	whole, two := impl.FlowThrough(1, 4, 16)
	half, three := impl.FlowThrough(1, 4, 8)
	root := wantWaterSpeed(4)
	expect(t, "gates", show(none, one, whole, two, half, three), show(0, 0, root, 0, root/2, 0))
	tellsApart(t, "the root first", heads(), func(head float32) float32 { return wantFlow(1.1, head, 5) }, func(head float32) float32 {
		return quotient(product(product(1.1, wantWaterSpeed(head)), 5), 16)
	})
	tellsApart(t, "an area with a part", heads(), func(area float32) float32 { return wantFlow(area, 2, 7) }, func(area float32) float32 {
		return product(area, product(7.0/16, wantWaterSpeed(2)))
	})
}

func TestWaterPower(t *testing.T) {
	p := picker(44)
	for range 5000 {
		flow, head, part := p.flow(exampleMill(), 1), p.length(), p.loss()
		power, code := impl.WaterPower(flow, head, part)
		want := product(product(product(flow, head), 9.8125), part)
		expect(t, "WaterPower", show(power, code), show(want, 0))
	}
	cases := []struct{ flow, head, part, power float32 }{
		{0, 4, 0.5, 0}, {negZero, 4, 0.5, negZero}, {negZero, 4, negZero, 0}, {2, 4, 0, 0}, {2, 4, negZero, negZero},
		{2, 4, 1, 78.5}, {tiny, leastLength, 1, 0}, {16 * tiny, leastLength, 1, 10 * tiny}, {plainest, greatestLength, 1, 1 << 30 * 9.8125},
	}
	for _, c := range cases {
		power, code := impl.WaterPower(c.flow, c.head, c.part)
		expect(t, "WaterPower "+show(c), show(power, code), show(c.power, 0))
	}
	// Each other way to make the product differs somewhere.
	wanted := func(flow float32) float32 { return product(product(product(flow, 1.7), 9.8125), 0.3) }
	tellsApart(t, "head and weight first", heads(), wanted, func(flow float32) float32 { return product(product(flow, product(1.7, 9.8125)), 0.3) })
	tellsApart(t, "weight before head", heads(), wanted, func(flow float32) float32 { return product(product(product(flow, 9.8125), 1.7), 0.3) })
	tellsApart(t, "part before weight", heads(), wanted, func(flow float32) float32 { return product(product(product(flow, 1.7), 0.3), 9.8125) })
}

// turn is a mill into which water flows while it turns.
type turn struct {
	mill        impl.Mill
	flow, speed float32
}

func someTurns(count int) []turn {
	p := picker(45)
	var list []turn
	for range count {
		m, speed := p.mill(), p.wheelSpeed()
		list = append(list, turn{m, p.flow(m, speed), speed})
	}
	return list
}

func TestTurns(t *testing.T) {
	for _, c := range someTurns(20000) {
		fill, one := impl.FillOf(c.mill, c.flow, c.speed)
		spilled, two := impl.SpilledBy(c.mill, c.flow, c.speed)
		torque, three := impl.TorqueFrom(c.mill, c.flow, c.speed)
		expect(t, "FillOf "+show(c), show(fill, one), show(wantFill(c.mill, c.flow, c.speed), 0))
		expect(t, "SpilledBy "+show(c), show(spilled, two), show(wantSpilled(c.mill, c.flow, c.speed), 0))
		expect(t, "TorqueFrom "+show(c), show(torque, three), show(wantMillTorque(c.mill, c.flow, c.speed), 0))
	}
}

func TestRoundingsOfTurns(t *testing.T) {
	turns := someTurns(20000)
	fill := func(c turn) float32 { return wantFill(c.mill, c.flow, c.speed) }
	spilled := func(c turn) float32 { return wantSpilled(c.mill, c.flow, c.speed) }
	torque := func(c turn) float32 { return wantMillTorque(c.mill, c.flow, c.speed) }
	tellsApart(t, "fill that is divided twice", turns, fill, func(c turn) float32 {
		if c.flow == 0 || c.speed == 0 {
			return fill(c)
		}
		return min(c.mill.Holds, quotient(quotient(c.flow, c.speed), float32(c.mill.Buckets)))
	})
	tellsApart(t, "spilled with a product that is not rounded", turns, spilled, func(c turn) float32 {
		return max(0, rounds(float64(c.flow)-float64(fill(c))*float64(rate(c.mill, c.speed))))
	})
	tellsApart(t, "spilled with other factors", turns, spilled, func(c turn) float32 {
		return max(0, difference(c.flow, product(product(fill(c), c.speed), float32(c.mill.Buckets))))
	})
	tellsApart(t, "spilled that is less than 0", turns, spilled, func(c turn) float32 {
		return difference(c.flow, product(fill(c), rate(c.mill, c.speed)))
	})
	tellsApart(t, "torque with half of a bucket", turns, torque, func(c turn) float32 {
		weight := product(product(fill(c), 9.8125), float32(c.mill.Buckets)/2)
		return product(product(weight, c.mill.Radius), 0.625)
	})
	tellsApart(t, "torque with the number first", turns, torque, func(c turn) float32 {
		weight := product(product(fill(c), float32(c.mill.Buckets/2)), 9.8125)
		return product(product(weight, c.mill.Radius), 0.625)
	})
	tellsApart(t, "torque with the lever first", turns, torque, func(c turn) float32 {
		weight := product(product(fill(c), 9.8125), float32(c.mill.Buckets/2))
		return product(product(weight, 0.625), c.mill.Radius)
	})
}

func TestTurnsAtLimits(t *testing.T) {
	m := exampleMill()
	cases := []struct{ flow, speed, fill, spilled, torque float32 }{
		{0, 0, 0, 0, 0}, {0, 2, 0, 0, 0}, {0, fastest, 0, 0, 0},
		{negZero, 0, 0, 0, 0}, {negZero, negZero, 0, 0, 0}, {negZero, 2, 0, 0, 0}, {0, negZero, 0, 0, 0},
		{tiny, 0, 2, tiny, 196.25}, {tiny, negZero, 2, tiny, 196.25}, {plainest, 0, 2, plainest, 196.25}, {plainest, negZero, 2, plainest, 196.25},
		{16, tiny, 2, 16, 196.25}, {tiny, tiny, 0.125, 0, 12.265625}, {16 * tiny, tiny, 2, 0, 196.25}, {17 * tiny, tiny, 2, tiny, 196.25},
		{32, 2, 2, 0, 196.25}, {above(32), 2, 2, above(32) - 32, 196.25}, {16, 1, 2, 0, 196.25}, {8, 1, 1, 0, 98.125},
		{tiny, fastest, 0, tiny, 0}, {8192 * tiny, fastest, tiny, 0, 100 * tiny}, {plainest, fastest, 2, 1048576 - 16384, 196.25},
	}
	for _, c := range cases {
		fill, one := impl.FillOf(m, c.flow, c.speed)
		spilled, two := impl.SpilledBy(m, c.flow, c.speed)
		torque, three := impl.TorqueFrom(m, c.flow, c.speed)
		expect(t, "turn "+show(c), show(fill, one, spilled, two, torque, three), show(c.fill, 0, c.spilled, 0, c.torque, 0))
	}
	odd, code := impl.TorqueFrom(millOf(9, 2, 4), 18, 2)
	expect(t, "an odd number of buckets", show(odd, code), show(98.125, 0))
}

func TestTorqueAt(t *testing.T) {
	p := picker(46)
	for _, g := range someGovernors(2000) {
		s := p.state(g)
		torque, code := impl.TorqueAt(g, s)
		expect(t, "TorqueAt", show(torque, code), show(wantTorqueAt(g, s), 0))
		flow, _ := impl.FlowThrough(g.Area, g.Head, int64(s.Gate))
		other, code := impl.TorqueFrom(g.Mill, flow, s.Speed)
		expect(t, "TorqueFrom", show(other, code), show(torque, 0))
	}
}

func TestGateBehind(t *testing.T) {
	p := picker(47)
	for _, g := range someGovernors(3000) {
		s := p.state(g)
		gate, code := impl.GateBehind(g, s)
		expect(t, "GateBehind", show(gate, code), show(wantGate(g, s), 0))
	}
}

func TestGateAtLimits(t *testing.T) {
	still := exampleGovernor()
	still.Low = negZero
	fast := exampleGovernor()
	fast.High = fastest
	cases := []struct {
		governor   impl.Governor
		speed      float32
		gate, want int8
	}{
		{exampleGovernor(), 3, 5, 5}, {exampleGovernor(), 2, 5, 5}, {exampleGovernor(), above(3), 5, 4}, {exampleGovernor(), below(2), 5, 6},
		{exampleGovernor(), above(3), 0, 0}, {exampleGovernor(), above(3), 1, 0}, {exampleGovernor(), above(3), 16, 15}, {exampleGovernor(), fastest, 0, 0},
		{exampleGovernor(), below(2), 16, 16}, {exampleGovernor(), below(2), 15, 16}, {exampleGovernor(), below(2), 0, 1},
		{exampleGovernor(), 0, 16, 16}, {exampleGovernor(), negZero, 0, 1}, {exampleGovernor(), 3, 0, 0}, {exampleGovernor(), 2, 16, 16},
		{still, 0, 3, 3}, {still, negZero, 3, 3}, {fast, fastest, 3, 3},
	}
	for _, c := range cases {
		gate, code := impl.GateBehind(c.governor, stateOf(c.speed, c.gate))
		expect(t, "GateBehind "+show(c), show(gate, code), show(c.want, 0))
	}
}

func TestTickOnce(t *testing.T) {
	p := picker(48)
	for _, g := range someGovernors(3000) {
		for range 5 {
			s := p.state(g)
			load := p.load(g, s.Speed)
			next, code := impl.TickOnce(g, s, load)
			expect(t, "TickOnce "+show(g, s, load), show(next, code), show(wantTick(g, s, load), 0))
		}
	}
}

// The gate is moved first, then its torque is found, at the speed from before.
func TestOrderWithinTicks(t *testing.T) {
	type tick struct {
		governor impl.Governor
		state    impl.State
		load     float32
	}
	p := picker(49)
	var ticks []tick
	for _, g := range someGovernors(3000) {
		s := p.state(g)
		ticks = append(ticks, tick{g, s, p.load(g, s.Speed)})
	}
	speedBehind := func(c tick) float32 { return wantTick(c.governor, c.state, c.load).Speed }
	tellsApart(t, "the gate from before", ticks, speedBehind, func(c tick) float32 {
		gained := quotient(difference(wantTorqueAt(c.governor, c.state), c.load), c.governor.Inertia)
		return min(max(sum(c.state.Speed, gained), 0), fastest)
	})
	tellsApart(t, "torque and load divided one by one", ticks, speedBehind, func(c tick) float32 {
		moved := stateOf(c.state.Speed, wantGate(c.governor, c.state))
		gained := quotient(wantTorqueAt(c.governor, moved), c.governor.Inertia)
		return min(max(difference(sum(c.state.Speed, gained), quotient(c.load, c.governor.Inertia)), 0), fastest)
	})
	g := impl.Governor{Mill: exampleMill(), Area: 16, Head: 4, Low: 1, High: 4, Inertia: 64}
	// Each bucket holds 2 at these speeds, with any gate but 0.
	opened, one := impl.TickOnce(g, stateOf(0.5, 0), 68.25)
	expect(t, "the gate is opened first", show(opened, one), show(stateOf(2.5, 1), 0))
	closed, two := impl.TickOnce(g, stateOf(5, 1), 64)
	expect(t, "the gate is closed first", show(closed, two), show(stateOf(4, 0), 0))
	// It is not moved again by the speed behind the tick.
	slow, three := impl.TickOnce(g, stateOf(4, 0), 256)
	expect(t, "the speed from before", show(slow, three), show(stateOf(0, 0), 0))
}

func TestTicksAtLimits(t *testing.T) {
	g := exampleGovernor()
	g.Inertia = 1
	cases := []struct {
		state impl.State
		load  float32
		want  impl.State
	}{
		{stateOf(2.5, 0), 0, stateOf(2.5, 0)}, {stateOf(2.5, 0), negZero, stateOf(2.5, 0)}, {stateOf(2.5, 0), tiny, stateOf(2.5, 0)},
		{stateOf(2.5, 0), 2.5, stateOf(0, 0)}, {stateOf(2.5, 0), below(2.5), stateOf(2.5-below(2.5), 0)}, {stateOf(2.5, 0), above(2.5), stateOf(0, 0)},
		{stateOf(2.5, 0), plainest, stateOf(0, 0)}, {stateOf(1, 16), plainest, stateOf(0, 16)}, {stateOf(fastest, 0), 0, stateOf(fastest, 0)},
		{stateOf(fastest, 1), 1, stateOf(fastest-1, 0)},
		// 196.25 is the torque of full buckets.
		{stateOf(0, 0), 0, stateOf(196.25, 1)}, {stateOf(0, 0), 196.25, stateOf(0, 1)}, {stateOf(negZero, 0), 196.25, stateOf(0, 1)},
		{stateOf(0, 16), above(196.25), stateOf(0, 16)}, {stateOf(0, 16), below(196.25), stateOf(196.25-below(196.25), 16)},
	}
	for _, c := range cases {
		next, code := impl.TickOnce(g, c.state, c.load)
		expect(t, "TickOnce "+show(c.state, c.load), show(next, code), show(c.want, 0))
	}
	strong := impl.Governor{Mill: millOf(48, 1024, 1024), Area: 1024, Head: 1024, Low: 2, High: 3, Inertia: leastLength}
	next, code := impl.TickOnce(strong, stateOf(0, 0), 0)
	expect(t, "no faster than the fastest", show(next, code), show(stateOf(fastest, 1), 0))
	next, code = impl.TickOnce(strong, stateOf(fastest, 16), 0)
	expect(t, "as fast as the fastest", show(next, code), show(stateOf(fastest, 15), 0))
}

// -0 becomes 0 in a tick: nothing that a tick returns is -0.
func TestTicksFromMinus0(t *testing.T) {
	g := exampleGovernor()
	for _, low := range []float32{0, negZero} {
		g.Low = low
		for _, load := range []float32{0, negZero, tiny, plainest} {
			next, code := impl.TickOnce(g, stateOf(negZero, 0), load)
			expect(t, "TickOnce", show(next, code), show(stateOf(0, 0), 0))
		}
		steady, ticks, code := impl.SteadyFrom(g, stateOf(negZero, 0), 0)
		expect(t, "SteadyFrom", show(steady, ticks, code), show(stateOf(0, 0), 1, 0))
		steady, ticks, code = impl.SteadyFrom(g, stateOf(0, 0), negZero)
		expect(t, "SteadyFrom", show(steady, ticks, code), show(stateOf(0, 0), 0, 0))
	}
}

func TestTickAll(t *testing.T) {
	p := picker(50)
	for _, g := range someGovernors(1000) {
		s := p.state(g)
		for _, count := range []int{0, 1, 2, p.below(101), 100} {
			loads := p.loads(g, s.Speed, count)
			states, code := impl.TickAll(g, s, loads)
			expect(t, "TickAll", show(states, code), show(wantTicks(g, s, loads), 0))
			from, code := impl.WithinFrom(g, s, loads)
			wantFrom, wantCode := wantWithin(g, s, loads)
			expect(t, "WithinFrom", show(from, code), show(wantFrom, wantCode))
		}
	}
	states, code := impl.TickAll(exampleGovernor(), stateOf(4, 0), []float32{100, 50, 0})
	expect(t, "three ticks", show(states, code), show([]impl.State{stateOf(3, 0), stateOf(2.5, 0), stateOf(2.5, 0)}, 0))
}

func TestWithinFrom(t *testing.T) {
	g := exampleGovernor()
	g.Inertia = 1
	// Without water each load is what the speed loses.
	cases := []struct {
		speed      float32
		loads      []float32
		from, code int
	}{
		{4, []float32{1}, 0, 0}, {4, []float32{0.5}, 0, impl.ErrNotFound}, {4, []float32{0, 0.5, 0, 0.5}, 3, 0},
		{2.5, []float32{0, 0, 0}, 0, 0}, {2.5, []float32{0.5, 0}, 0, 0}, {2.5, nil, 0, impl.ErrNotFound}, {2.5, []float32{}, 0, impl.ErrNotFound},
		{2.5, []float32{0, 0, 1}, 0, impl.ErrNotFound}, {3, []float32{0}, 0, 0}, {above(3), []float32{0}, 0, impl.ErrNotFound},
		{above(3), []float32{0, above(3) - 3}, 1, 0}, {3, []float32{1}, 0, 0}, {3, []float32{3 - below(2)}, 0, impl.ErrNotFound},
		{fastest, slices.Repeat([]float32{10}, 100), 0, impl.ErrNotFound}, {fastest, append(slices.Repeat([]float32{10}, 99), 32), 99, 0},
		{fastest, append(slices.Repeat([]float32{10}, 99), 31), 99, 0}, {fastest, append(slices.Repeat([]float32{10}, 99), 30), 0, impl.ErrNotFound},
	}
	for i, c := range cases {
		from, code := impl.WithinFrom(g, stateOf(c.speed, 0), c.loads)
		expect(t, "case "+show(i), show(from, code), show(c.from, c.code))
	}
	// The speed is 2.5, then 1.5, and then the first gate brings it back.
	from, code := impl.WithinFrom(g, stateOf(2.5, 0), []float32{0, 1, 3.5})
	expect(t, "within, not within, and within", show(from, code), show(2, 0))
}

func TestSteadyFrom(t *testing.T) {
	p := picker(51)
	found := 0
	for _, g := range someGovernors(1500) {
		for range 3 {
			s := p.state(g)
			load := p.load(g, s.Speed)
			want, wantTicks, wantCode := wantSteady(g, s, load)
			steady, ticks, code := impl.SteadyFrom(g, s, load)
			expect(t, "SteadyFrom "+show(g, s, load), show(steady, ticks, code), show(want, wantTicks, wantCode))
			if code == 0 {
				found++
			}
		}
	}
	if found < 500 || found > 4000 {
		t.Errorf("%v states of 4500 get steady", found)
	}
}

// With as great a load as the inertia a wheel without water loses 1 in a tick.
func TestNumberOfTicks(t *testing.T) {
	g := impl.Governor{Mill: exampleMill(), Area: 1, Head: 4, Low: 0, High: fastest, Inertia: 8}
	for _, speed := range []int{0, 1, 2, 50, 98, 99} {
		steady, ticks, code := impl.SteadyFrom(g, stateOf(float32(speed), 0), 8)
		expect(t, "SteadyFrom", show(steady, ticks, code), show(stateOf(0, 0), speed, 0))
	}
	for _, speed := range []int{100, 101, 1024} {
		steady, ticks, code := impl.SteadyFrom(g, stateOf(float32(speed), 0), 8)
		expect(t, "SteadyFrom", show(steady, ticks, code), show(impl.State{}, 0, impl.ErrNotFound))
	}
	// A speed that stays is not steady as long as the gate is moved.
	g.Low, g.High = 1, 2
	steady, ticks, code := impl.SteadyFrom(g, stateOf(0, 0), plainest)
	expect(t, "a gate that is opened", show(steady, ticks, code), show(stateOf(0, 16), 16, 0))
	g.Low, g.High = 0, 2
	steady, ticks, code = impl.SteadyFrom(g, stateOf(fastest, 16), 0)
	expect(t, "a gate that is closed", show(steady, ticks, code), show(stateOf(fastest, 0), 16, 0))
}

func TestBestGateAndLeastGate(t *testing.T) {
	p := picker(52)
	missing := 0
	for _, g := range someGovernors(3000) {
		speed := p.wheelSpeed()
		load := p.load(g, speed)
		best, code := impl.BestGate(g, speed, load)
		expect(t, "BestGate "+show(g, speed, load), show(best, code), show(wantBestGate(g, speed, load), 0))
		want, wantCode := wantLeastGate(g, speed, load)
		least, code := impl.LeastGate(g, speed, load)
		expect(t, "LeastGate "+show(g, speed, load), show(least, code), show(want, wantCode))
		missing += wantCode / impl.ErrNotFound
	}
	if missing < 300 || missing > 2700 {
		t.Errorf("no gate is enough in %v cases of 3000", missing)
	}
}

func TestGatesAtLimits(t *testing.T) {
	// Each bucket holds 2 at this speed, with any gate but 0: 196.25.
	full := impl.Governor{Mill: exampleMill(), Area: 16, Head: 4, Low: 2, High: 3, Inertia: 100}
	slow := []float32{0, negZero, tiny, 0.5}
	cases := []struct {
		load              float32
		best, least, code int
	}{
		{0, 0, 0, 0}, {negZero, 0, 0, 0}, {tiny, 0, 1, 0}, {98.125, 0, 1, 0}, {below(98.125), 0, 1, 0}, {above(98.125), 1, 1, 0},
		{196.25, 1, 1, 0}, {above(196.25), 1, 0, impl.ErrNotFound}, {plainest, 1, 0, impl.ErrNotFound},
	}
	for _, c := range cases {
		for _, speed := range slow {
			best, one := impl.BestGate(full, speed, c.load)
			least, two := impl.LeastGate(full, speed, c.load)
			expect(t, "gates "+show(speed, c.load), show(best, one, least, two), show(c.best, 0, c.least, c.code))
		}
	}
	// Here each gate has its own torque.
	g := exampleGovernor()
	for gate := range int8(17) {
		torque := wantTorqueAt(g, stateOf(16, gate))
		best, one := impl.BestGate(g, 16, torque)
		least, two := impl.LeastGate(g, 16, torque)
		expect(t, "the torque of "+show(gate), show(best, one, least, two), show(gate, 0, gate, 0))
		least, two = impl.LeastGate(g, 16, above(torque))
		want, wantCode := gate+1, 0
		if gate == 16 {
			want, wantCode = 0, impl.ErrNotFound
		}
		expect(t, "more than the torque of "+show(gate), show(least, two), show(want, wantCode))
	}
}

func TestErrorsOfBadMills(t *testing.T) {
	for _, m := range badMills() {
		// ErrInvalid is found before what the other errors stand for.
		for _, x := range []float32{1, -1, nan, plainest} {
			fill, c1 := impl.FillOf(m, x, x)
			spilled, c2 := impl.SpilledBy(m, x, x)
			torque, c3 := impl.TorqueFrom(m, x, x)
			expect(t, "bad mill", show(fill, c1, spilled, c2, torque, c3), show(0, 1, 0, 1, 0, 1))
		}
		expect(t, "text", impl.MillText(m), "")
	}
}

func TestErrorsOfBadGovernors(t *testing.T) {
	for _, g := range badGovernors() {
		expectInvalidGovernor(t, g, stateOf(2, 3))
		expectInvalidGovernor(t, g, stateOf(nan, -1))
		for _, x := range []float32{1, -1, nan} {
			best, c1 := impl.BestGate(g, x, x)
			least, c2 := impl.LeastGate(g, x, x)
			expect(t, "bad governor", show(best, c1, least, c2), show(0, 1, 0, 1))
		}
	}
	for _, s := range badStates() {
		expectInvalidGovernor(t, exampleGovernor(), s)
	}
}

func expectInvalidGovernor(t *testing.T, g impl.Governor, s impl.State) {
	t.Helper()
	torque, c1 := impl.TorqueAt(g, s)
	gate, c2 := impl.GateBehind(g, s)
	expect(t, "invalid", show(torque, c1, gate, c2), show(0, 1, 0, 1))
	for _, load := range []float32{1, -1, nan} {
		next, c1 := impl.TickOnce(g, s, load)
		steady, ticks, c2 := impl.SteadyFrom(g, s, load)
		expect(t, "invalid", show(next, c1, steady, ticks, c2), show(impl.State{}, 1, impl.State{}, 0, 1))
		for _, count := range []int{0, 1, 100, 101} {
			loads := slices.Repeat([]float32{load}, count)
			states, c1 := impl.TickAll(g, s, loads)
			from, c2 := impl.WithinFrom(g, s, loads)
			expect(t, "invalid", show(len(states), c1, from, c2), show(0, 1, 0, 1))
		}
	}
}

func TestRangesOfWater(t *testing.T) {
	m, g := exampleMill(), exampleGovernor()
	for _, x := range notLengths {
		speed, c1 := impl.WaterSpeed(x)
		narrow, c2 := impl.FlowThrough(x, 4, 8)
		low, c3 := impl.FlowThrough(1, x, 8)
		power, c4 := impl.WaterPower(2, x, 0.5)
		expect(t, "no length", show(speed, c1, narrow, c2, low, c3, power, c4), show(0, 2, 0, 2, 0, 2, 0, 2))
	}
	for _, gate := range []int64{-1, 17, 256, 1 << 32, math.MinInt64, math.MaxInt64} {
		flow, code := impl.FlowThrough(1, 4, gate)
		expect(t, "no gate", show(flow, code), show(0, 2))
	}
	for _, x := range noParts {
		power, code := impl.WaterPower(2, 4, x)
		expect(t, "no part", show(power, code), show(0, 2))
	}
	for _, x := range notSizes {
		power, c1 := impl.WaterPower(x, 4, 0.5)
		fill, c2 := impl.FillOf(m, x, 2)
		spilled, c3 := impl.SpilledBy(m, x, 2)
		torque, c4 := impl.TorqueFrom(m, x, 2)
		expect(t, "no flow", show(power, c1, fill, c2, spilled, c3, torque, c4), show(0, 2, 0, 2, 0, 2, 0, 2))
		next, c1 := impl.TickOnce(g, stateOf(2, 3), x)
		steady, ticks, c2 := impl.SteadyFrom(g, stateOf(2, 3), x)
		best, c3 := impl.BestGate(g, 2, x)
		least, c4 := impl.LeastGate(g, 2, x)
		expect(t, "no load", show(next, c1, steady, ticks, c2, best, c3, least, c4), show(impl.State{}, 2, impl.State{}, 0, 2, 0, 2, 0, 2))
	}
	for _, x := range notSpeeds {
		fill, c1 := impl.FillOf(m, 16, x)
		spilled, c2 := impl.SpilledBy(m, 16, x)
		torque, c3 := impl.TorqueFrom(m, 16, x)
		best, c4 := impl.BestGate(g, x, 10)
		// ErrRange is found before ErrNotFound.
		least, c5 := impl.LeastGate(g, x, plainest)
		expect(t, "no speed", show(fill, c1, spilled, c2, torque, c3, best, c4, least, c5), show(0, 2, 0, 2, 0, 2, 0, 2, 0, 2))
		none, c1 := impl.FillOf(m, 0, x)
		expect(t, "no speed, and no flow", show(none, c1), show(0, 2))
	}
}

func TestReachedRangesOfWater(t *testing.T) {
	m, g := exampleMill(), exampleGovernor()
	for _, x := range []float32{leastLength, greatestLength} {
		_, c1 := impl.WaterSpeed(x)
		_, c2 := impl.FlowThrough(x, x, 0)
		_, c3 := impl.FlowThrough(x, x, 16)
		_, c4 := impl.WaterPower(plainest, x, 1)
		_, c5 := impl.WaterPower(negZero, x, negZero)
		expect(t, "codes", show(c1, c2, c3, c4, c5), show(0, 0, 0, 0, 0))
	}
	for _, flow := range []float32{0, negZero, tiny, plainest} {
		for _, speed := range []float32{0, negZero, tiny, fastest} {
			_, c1 := impl.FillOf(m, flow, speed)
			_, c2 := impl.SpilledBy(m, flow, speed)
			_, c3 := impl.TorqueFrom(m, flow, speed)
			_, c4 := impl.BestGate(g, speed, flow)
			_, c5 := impl.TickOnce(g, stateOf(speed, 16), flow)
			_, c6 := impl.TickAll(g, stateOf(speed, 0), []float32{flow})
			expect(t, "codes", show(c1, c2, c3, c4, c5, c6), show(0, 0, 0, 0, 0, 0))
		}
	}
}

func TestErrorsOfTickAll(t *testing.T) {
	g, s := exampleGovernor(), stateOf(2.5, 0)
	for _, count := range []int{101, 102, 1000} {
		for _, load := range []float32{0, plainest} {
			expectTicks(t, g, s, slices.Repeat([]float32{load}, count), impl.ErrLimit)
		}
		// ErrRange of any load is found before ErrLimit.
		for _, at := range []int{0, 1, 99, 100, count - 1} {
			for _, x := range notSizes {
				loads := make([]float32, count)
				loads[at] = x
				expectTicks(t, g, s, loads, impl.ErrRange)
			}
		}
	}
	for _, at := range []int{0, 1, 50, 99} {
		for _, x := range notSizes {
			loads := make([]float32, 100)
			loads[at] = x
			expectTicks(t, g, s, loads, impl.ErrRange)
		}
	}
	states, one := impl.TickAll(g, s, make([]float32, 100))
	from, two := impl.WithinFrom(g, s, make([]float32, 100))
	expect(t, "100 loads", show(len(states), one, from, two), show(100, 0, 0, 0))
	states, one = impl.TickAll(g, s, nil)
	from, two = impl.WithinFrom(g, s, nil)
	expect(t, "no loads", show(len(states), one, from, two), show(0, 0, 0, impl.ErrNotFound))
}

func expectTicks(t *testing.T, g impl.Governor, s impl.State, loads []float32, want int) {
	t.Helper()
	states, one := impl.TickAll(g, s, loads)
	from, two := impl.WithinFrom(g, s, loads)
	expect(t, "errors of ticks", show(len(states), one, from, two), show(0, want, 0, want))
}

func TestMillTexts(t *testing.T) {
	cases := []struct {
		mill impl.Mill
		text string
	}{
		{exampleMill(), "8:40000000:40800000"}, {millOf(4, leastLength, greatestLength), "4:3d800000:44800000"},
		{millOf(48, greatestLength, leastLength), "48:44800000:3d800000"}, {millOf(10, 1, above(1)), "10:3f800000:3f800001"},
	}
	for _, c := range cases {
		expect(t, "MillText", impl.MillText(c.mill), c.text)
		read, code := impl.ReadMill(c.text)
		expect(t, "ReadMill", show(read, code), show(c.mill, 0))
	}
	for _, g := range someGovernors(1000) {
		read, code := impl.ReadMill(impl.MillText(g.Mill))
		expect(t, "ReadMill of MillText", show(read, code), show(g.Mill, 0))
	}
}

func TestTextsOfNoMill(t *testing.T) {
	texts := []string{
		"", ":", "::", ":::", "x", "8", "8:40000000", "8:40000000:", "8:40000000:40800000:", ":8:40000000:40800000", "8:40000000:40800000:40800000",
		"8::40800000", ":40000000:40800000", "8:40000000:4080000", "8:40000000:040800000", "8:4000000:40800000", "8:40000000:4080000g",
		" 8:40000000:40800000", "8 :40000000:40800000", "8: 40000000:40800000", "8:40000000:40800000 ", "8:40000000:40800000\n",
		"+8:40000000:40800000", "-8:40000000:40800000", "08:40000000:40800000", "0x8:40000000:40800000", "1_0:40000000:40800000", "8.0:40000000:40800000",
		"3:40000000:40800000", "49:40000000:40800000", "0:40000000:40800000", "65544:40000000:40800000", "4294967304:40000000:40800000",
		"99999999999999999999:40000000:40800000", "8:3D800000:40800000", "8:3d7fffff:40800000", "8:44800001:40800000", "8:40000000:3d7fffff",
		"8:40000000:44800001", "8:7fc00000:40800000", "8:40000000:7fc00000", "8:40000000:ffc00000", "8:c0000000:40800000", "8:40000000:7f800000",
		"8:00000000:40800000", "8:40000000:80000000", "8/40000000/40800000", "8;40000000;40800000", "8:2:4", "\xff:40000000:40800000", "8:40000000:4080000\xff",
		strings.Repeat(":", 1000000), strings.Repeat("8", 1000000), strings.Repeat("0", 999980) + "8:40000000:40800000",
		"8:40000000:40800000" + strings.Repeat(":40800000", 100000),
	}
	for _, text := range texts {
		read, code := impl.ReadMill(text)
		if read != (impl.Mill{}) || code != impl.ErrSyntax {
			t.Errorf("ReadMill of %.60q: got %+v %v", text, read, code)
		}
	}
}
