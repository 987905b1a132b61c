package tests

import (
	"math"
	"slices"
	"strings"
	"testing"

	"loop.example/g01344/impl"
)

// waterArguments has one of each kind that a function of chapter 3 takes.
type waterArguments struct {
	mill     impl.Mill
	governor impl.Governor
	a, b     impl.State
	x, y, z  float32
	gate     int64
	loads    []float32
	text     string
}

// waterCalls tells for each function of chapter 3 what it returns.
func waterCalls() map[string]func(waterArguments) string {
	return map[string]func(waterArguments) string{
		"IsLength":      func(g waterArguments) string { return show(impl.IsLength(g.x)) },
		"ValidMill":     func(g waterArguments) string { return show(impl.ValidMill(g.mill)) },
		"ValidGovernor": func(g waterArguments) string { return show(impl.ValidGovernor(g.governor)) },
		"ValidState":    func(g waterArguments) string { return show(impl.ValidState(g.a)) },
		"SameState":     func(g waterArguments) string { return show(impl.SameState(g.a, g.b)) },
		"WaterSpeed":    func(g waterArguments) string { a, c := impl.WaterSpeed(g.x); return show(a, c) },
		"FlowThrough":   func(g waterArguments) string { a, c := impl.FlowThrough(g.x, g.y, g.gate); return show(a, c) },
		"WaterPower":    func(g waterArguments) string { a, c := impl.WaterPower(g.x, g.y, g.z); return show(a, c) },
		"FillOf":        func(g waterArguments) string { a, c := impl.FillOf(g.mill, g.x, g.y); return show(a, c) },
		"SpilledBy":     func(g waterArguments) string { a, c := impl.SpilledBy(g.mill, g.x, g.y); return show(a, c) },
		"TorqueFrom":    func(g waterArguments) string { a, c := impl.TorqueFrom(g.mill, g.x, g.y); return show(a, c) },
		"TorqueAt":      func(g waterArguments) string { a, c := impl.TorqueAt(g.governor, g.a); return show(a, c) },
		"GateBehind":    func(g waterArguments) string { a, c := impl.GateBehind(g.governor, g.a); return show(a, c) },
		"TickOnce":      func(g waterArguments) string { a, c := impl.TickOnce(g.governor, g.a, g.x); return show(a, c) },
		"TickAll":       func(g waterArguments) string { a, c := impl.TickAll(g.governor, g.a, g.loads); return show(a, c) },
		"WithinFrom":    func(g waterArguments) string { a, c := impl.WithinFrom(g.governor, g.a, g.loads); return show(a, c) },
		"SteadyFrom":    func(g waterArguments) string { a, b, c := impl.SteadyFrom(g.governor, g.a, g.x); return show(a, b, c) },
		"BestGate":      func(g waterArguments) string { a, c := impl.BestGate(g.governor, g.x, g.y); return show(a, c) },
		"LeastGate":     func(g waterArguments) string { a, c := impl.LeastGate(g.governor, g.x, g.y); return show(a, c) },
		"MillText":      func(g waterArguments) string { return show(impl.MillText(g.mill)) },
		"ReadMill":      func(g waterArguments) string { a, c := impl.ReadMill(g.text); return show(a, c) },
	}
}

func pickWaterArguments(p *picker, governors []impl.Governor) waterArguments {
	numbers := []float32{0, negZero, tiny, leastLength, 0.5, 1, 2, 16, fastest, 196.25, plainest}
	badNumbers := append([]float32{-fastest, above(fastest)}, notSizes...)
	texts := []string{"", "8:40000000:40800000", "48:44800000:3d800000", "8:40000000:40800000:", "8:7fc00000:40800000", "\xff"}
	g := waterArguments{
		governor: mostly(p, governors, badGovernors()),
		mill:     mostly(p, []impl.Mill{p.mill(), exampleMill()}, badMills()),
		x:        mostly(p, numbers, badNumbers), y: mostly(p, numbers, badNumbers), z: mostly(p, numbers, badNumbers),
		gate: mostly(p, []int64{0, 1, 8, 15, 16}, []int64{-1, 17, math.MinInt64, math.MaxInt64}),
		text: oneOf(p, texts),
	}
	states := []impl.State{p.state(g.governor), p.state(g.governor), stateOf(0, 0), stateOf(negZero, 0)}
	g.a, g.b = mostly(p, states, badStates()), mostly(p, states, badStates())
	g.loads = p.loads(exampleGovernor(), 2, p.below(110))
	if len(g.loads) > 0 && p.below(5) == 0 {
		g.loads[p.below(len(g.loads))] = oneOf(p, badNumbers)
	}
	return g
}

// Promise 1: every function returns, modifies no argument, and returns equal
// results for equal arguments.
func TestPromise1OfWater(t *testing.T) {
	p := picker(53)
	calls := waterCalls()
	governors := someGovernors(200)
	for range 2000 {
		first := pickWaterArguments(&p, governors)
		second := first
		second.loads = roomy(first.loads, 77)
		loads := all(second.loads)
		expectEqual(t, calls, first, second)
		expect(t, "loads", all(second.loads), loads)
	}
}

// Promise 1, also where several calls are made at once.
func TestPromise1OfWaterAtOnce(t *testing.T) {
	p := picker(54)
	governors := someGovernors(20)
	for range 50 {
		expectAtOnce(t, waterCalls(), pickWaterArguments(&p, governors))
	}
}

func TestPromise1OfManyLoads(t *testing.T) {
	loads := make([]float32, 1000000)
	g := waterArguments{mill: exampleMill(), governor: exampleGovernor(), x: 2, y: 4, z: 0.5, loads: loads, text: strings.Repeat("8:40000000", 100000)}
	for name, call := range waterCalls() {
		once := call(g)
		expect(t, name, call(g), once)
	}
	expectTicks(t, g.governor, g.a, loads, impl.ErrLimit)
	loads[999999] = nan
	expectTicks(t, g.governor, g.a, loads, impl.ErrRange)
	g.governor.Low = nan
	expectTicks(t, g.governor, g.a, loads, impl.ErrInvalid)
}

// Promise 1 and the convention of purity: results share no memory, neither
// with arguments nor with each other.
func TestStatesAreNewMemory(t *testing.T) {
	g, s := exampleGovernor(), stateOf(4, 3)
	loads := roomy([]float32{100, 20, 50}, 77)
	first, _ := impl.TickAll(g, s, loads)
	second, _ := impl.TickAll(g, s, loads)
	wanted, arguments := show(first), all(loads)
	clear(first[:cap(first)])
	expect(t, "states of the same loads", show(second), wanted)
	expect(t, "loads of states that are written over", all(loads), arguments)
	clear(loads[:cap(loads)])
	expect(t, "states whose loads are written over", show(second), wanted)
}

// Promise 6: no bucket is filled by more than it holds.
func TestPromise6(t *testing.T) {
	full := 0
	for _, c := range someTurns(20000) {
		fill, code := impl.FillOf(c.mill, c.flow, c.speed)
		if code != 0 || !(fill >= 0) || fill > c.mill.Holds || math.Signbit(float64(fill)) {
			t.Errorf("%+v: filled by %v (%v)", c, fill, code)
		}
		if fill == c.mill.Holds {
			full++
		}
		// Neither is a wheel heavier than one whose buckets are full.
		torque, one := impl.TorqueFrom(c.mill, c.flow, c.speed)
		most, two := impl.TorqueFrom(c.mill, plainest, 0)
		if one != 0 || two != 0 || !(torque >= 0) || torque > most {
			t.Errorf("%+v: the torque is %v, that of full buckets %v", c, torque, most)
		}
		expectSpilled(t, c, fill)
	}
	if full < 1000 || full > 19000 {
		t.Errorf("%v turns of 20000 have full buckets", full)
	}
}

// What does not stay in the buckets is spilled, and only this.
func expectSpilled(t *testing.T, c turn, fill float32) {
	t.Helper()
	spilled, code := impl.SpilledBy(c.mill, c.flow, c.speed)
	if code != 0 || !(spilled >= 0) || spilled > c.flow || math.Signbit(float64(spilled)) {
		t.Errorf("%+v: spilled %v (%v)", c, spilled, code)
	}
	taken := float64(fill) * float64(c.speed) * float64(c.mill.Buckets)
	near := 1e-6*float64(c.flow) + 1e-39
	if fill < 1e-30 {
		// Subnormal numbers are rounded more coarsely.
		near += float64(tiny) * float64(rate(c.mill, c.speed))
	}
	if math.Abs(taken+float64(spilled)-float64(c.flow)) > near {
		t.Errorf("%+v: %v is taken, and %v spilled", c, taken, spilled)
	}
}

// Promise 6 where limits are reached, and beside them.
func TestPromise6AtLimits(t *testing.T) {
	for _, g := range someGovernors(1000) {
		m := g.Mill
		for _, speed := range []float32{0, negZero, tiny, 3 * tiny, g.High, below(g.High), fastest} {
			holds := product(m.Holds, rate(m, speed))
			for _, flow := range []float32{tiny, below(holds), holds, above(holds), plainest} {
				if !isSize(flow) || flow == 0 {
					continue
				}
				fill, code := impl.FillOf(m, flow, speed)
				if code != 0 || !(fill >= 0) || fill > m.Holds || speed == 0 && fill != m.Holds {
					t.Errorf("%+v: %v at %v fills by %v (%v)", m, flow, speed, fill, code)
				}
			}
			for _, flow := range []float32{0, negZero} {
				fill, code := impl.FillOf(m, flow, speed)
				expect(t, "no flow", show(fill, code), show(0, 0))
			}
		}
	}
}

// A gate that is opened further lets no less water through, so that no bucket
// is filled by less, and no torque is less.
func TestGatesThatAreOpened(t *testing.T) {
	p := picker(55)
	for _, g := range someGovernors(2000) {
		speed := p.wheelSpeed()
		var last, lastTorque float32
		for gate := range int8(17) {
			flow, one := impl.FlowThrough(g.Area, g.Head, int64(gate))
			torque, two := impl.TorqueAt(g, stateOf(speed, gate))
			if one != 0 || two != 0 || !(flow >= last) || !(torque >= lastTorque) {
				t.Errorf("%+v: the gate %v has the flow %v after %v, and the torque %v after %v", g, gate, flow, last, torque, lastTorque)
			}
			last, lastTorque = flow, torque
		}
		if !(last > 0) {
			t.Errorf("%+v: nothing flows through an open gate", g)
		}
	}
}

// Promise 7: a state that is steady stays.
func TestPromise7(t *testing.T) {
	p := picker(56)
	turning, ticked := 0, 0
	for _, g := range someGovernors(2000) {
		for range 3 {
			s := p.state(g)
			load := p.load(g, s.Speed)
			steady, ticks, code := impl.SteadyFrom(g, s, load)
			if code != 0 {
				expectUnrest(t, g, s, load)
				continue
			}
			if steady.Speed > 0 && steady.Speed < fastest && load > 0 {
				turning++
			}
			if ticks > 0 {
				ticked++
			}
			expectRest(t, g, s, load, steady, ticks)
		}
	}
	if turning < 20 || ticked < 500 {
		t.Errorf("only %v steady states turn under a load, and only %v are found by ticks", turning, ticked)
	}
}

// expectRest expects that a steady state is reached as told, and stays.
func expectRest(t *testing.T, g impl.Governor, s impl.State, load float32, steady impl.State, ticks int64) {
	t.Helper()
	name := "rest " + show(g, s, load)
	next, code := impl.TickOnce(g, steady, load)
	expect(t, name, show(next, code, impl.ValidState(steady)), show(steady, 0, true))
	again, none, code := impl.SteadyFrom(g, steady, load)
	expect(t, name, show(again, none, code), show(steady, 0, 0))
	states, code := impl.TickAll(g, s, slices.Repeat([]float32{load}, 100))
	if code != 0 || len(states) != 100 || ticks < 0 || ticks > 99 {
		t.Fatalf("%v: %v states, %v ticks (%v)", name, len(states), ticks, code)
	}
	for i, state := range append([]impl.State{s}, states...) {
		// Nothing but the steady state comes behind it; what comes before is
		// another one each time.
		if i >= int(ticks) != impl.SameState(state, steady) {
			t.Errorf("%v: %+v behind %v ticks of %v to %+v", name, state, i, ticks, steady)
		}
	}
}

// expectUnrest expects that each of as many ticks as are made changes something.
func expectUnrest(t *testing.T, g impl.Governor, s impl.State, load float32) {
	t.Helper()
	states, code := impl.TickAll(g, s, slices.Repeat([]float32{load}, 100))
	if code != 0 || len(states) != 100 {
		t.Fatalf("%+v, %+v, %v: %v states (%v)", g, s, load, len(states), code)
	}
	for i, next := range states {
		if impl.SameState(next, s) {
			t.Errorf("%+v stays at %+v with %v behind %v ticks", g, s, load, i)
		}
		s = next
	}
}

// Promise 7 where limits are reached: a load that equals the torque holds any
// speed that is within what is told, and -0 is not steady, for it becomes 0.
func TestPromise7AtLimits(t *testing.T) {
	for _, g := range someGovernors(1000) {
		for _, speed := range []float32{g.Low, above(g.Low), g.High, below(g.High)} {
			for _, gate := range []int8{0, 1, 8, 16} {
				s := stateOf(speed, gate)
				load := wantTorqueAt(g, s)
				if speed == 0 {
					s.Speed = 0
				}
				if speed < g.Low || speed > g.High || !isSize(load) {
					continue
				}
				steady, ticks, code := impl.SteadyFrom(g, s, load)
				expect(t, "held "+show(g, s), show(steady, ticks, code), show(s, 0, 0))
			}
		}
		still, ticks, code := impl.SteadyFrom(g, stateOf(0, 16), plainest)
		if wantTorqueAt(g, stateOf(0, 16)) <= plainest {
			expect(t, "a wheel that stands still", show(still, ticks, code), show(stateOf(0, 16), 0, 0))
		}
		fast, ticks, code := impl.SteadyFrom(g, stateOf(fastest, 0), negZero)
		expect(t, "a wheel that is not slowed", show(fast, ticks, code), show(stateOf(fastest, 0), 0, 0))
		moved, ticks, code := impl.SteadyFrom(g, stateOf(negZero, 16), plainest)
		if wantTorqueAt(g, stateOf(0, 16)) <= plainest {
			expect(t, "-0", show(moved, ticks, code), show(stateOf(0, 16), 1, 0))
		}
	}
}
