package tests

import (
	"math"

	"loop.example/g01344/impl"
)

// Limits that the document gives no name.
const (
	leastLength    = float32(1.0 / 16)
	greatestLength = float32(1024)
	fastest        = float32(1024)
)

// notLengths are numbers that are no lengths.
var notLengths = []float32{below(leastLength), above(greatestLength), 0, negZero, tiny, -4, -leastLength, inf, -inf, nan, otherNaN}

// notSpeeds are numbers that are no speeds of a wheel that water turns.
var notSpeeds = []float32{-tiny, -1, above(fastest), plainest, inf, -inf, nan, otherNaN}

func millOf(buckets int16, holds, radius float32) impl.Mill {
	return impl.Mill{Buckets: buckets, Holds: holds, Radius: radius}
}

func stateOf(speed float32, gate int8) impl.State { return impl.State{Speed: speed, Gate: gate} }

// exampleMill is that of the document.
func exampleMill() impl.Mill { return millOf(8, 2, 4) }

func exampleGovernor() impl.Governor {
	return impl.Governor{Mill: exampleMill(), Area: 1, Head: 4, Low: 2, High: 3, Inertia: 100}
}

func (p *picker) length() float32 {
	switch p.below(10) {
	case 0:
		return leastLength
	case 1:
		return greatestLength
	}
	return p.between(leastLength, greatestLength)
}

func (p *picker) mill() impl.Mill {
	m := millOf(int16(4+p.below(45)), p.length(), p.length())
	switch p.below(10) {
	case 0:
		m.Buckets = 4
	case 1:
		m.Buckets = 48
	}
	return m
}

// wheelSpeed picks a speed of a wheel.
func (p *picker) wheelSpeed() float32 { return p.upTo(fastest) }

// flow picks a flow, often one that the buckets of a mill hold nearly, and
// often a limit or nearly nothing.
func (p *picker) flow(m impl.Mill, speed float32) float32 {
	holds := product(m.Holds, product(speed, float32(m.Buckets)))
	flow := p.between(1.0/1024, plainest)
	switch p.below(16) {
	case 0:
		flow = 0
	case 1:
		flow = negZero
	case 2:
		flow = float32(p.below(20)) * tiny
	case 3:
		flow = plainest
	case 4:
		flow = holds
	case 5:
		flow = above(holds)
	case 6:
		flow = below(holds)
	case 7, 8, 9, 10:
		flow = product(holds, p.between(0.25, 2))
	}
	return min(max(flow, 0), plainest)
}

func (p *picker) governor() impl.Governor {
	g := impl.Governor{Mill: p.mill(), Area: p.length(), Head: p.length(), Inertia: p.length()}
	g.Low = min(p.wheelSpeed(), below(fastest))
	switch p.below(6) {
	case 0:
		g.High = fastest
	case 1:
		g.High = above(g.Low)
	default:
		g.High = max(p.between(1.0/1024, fastest), above(g.Low))
	}
	return g
}

// someGovernors are valid governors, the first ones at limits.
func someGovernors(count int) []impl.Governor {
	p := picker(41)
	least := impl.Governor{Mill: millOf(4, leastLength, leastLength), Area: leastLength, Head: leastLength, Low: 0, High: tiny, Inertia: leastLength}
	greatest := impl.Governor{Mill: millOf(48, greatestLength, greatestLength), Area: greatestLength, Head: greatestLength, Low: below(fastest), High: fastest, Inertia: greatestLength}
	quick := greatest
	quick.Inertia, quick.Low = leastLength, negZero
	list := []impl.Governor{exampleGovernor(), least, greatest, quick}
	for len(list) < count {
		list = append(list, p.governor())
	}
	return list
}

// state picks a state, often one at the limits of a governor.
func (p *picker) state(g impl.Governor) impl.State {
	s := stateOf(p.wheelSpeed(), int8(p.below(17)))
	switch p.below(8) {
	case 0:
		s.Speed = g.Low
	case 1:
		s.Speed = g.High
	case 2:
		s.Speed = above(g.Low)
	case 3:
		s.Speed = below(g.High)
	}
	switch p.below(8) {
	case 0:
		s.Gate = 0
	case 1:
		s.Gate = 16
	}
	return s
}

// load picks a load, often one that holds the torque of a gate nearly.
func (p *picker) load(g impl.Governor, speed float32) float32 {
	torque := wantTorqueAt(g, stateOf(speed, int8(p.below(17))))
	load := torque
	switch p.below(10) {
	case 0:
		load = 0
	case 1:
		load = negZero
	case 2:
		load = plainest
	case 3:
		load = tiny
	case 4:
		load = above(torque)
	case 5:
		load = below(torque)
	case 6, 7:
		load = product(torque, p.between(0.5, 2))
	}
	return min(max(load, 0), plainest)
}

func (p *picker) loads(g impl.Governor, speed float32, count int) []float32 {
	list := make([]float32, count)
	for i := range list {
		list[i] = p.load(g, speed)
	}
	return list
}

// badMills are mills that are not valid, each for one reason.
func badMills() []impl.Mill {
	list := []impl.Mill{{}}
	for _, buckets := range []int16{3, 49, 0, -8, math.MinInt16, math.MaxInt16} {
		list = append(list, millOf(buckets, 2, 4))
	}
	for _, length := range notLengths {
		list = append(list, millOf(8, length, 4), millOf(8, 2, length))
	}
	return list
}

// badGovernors are governors that are not valid, each for one reason.
func badGovernors() []impl.Governor {
	list := []impl.Governor{{}}
	add := func(change func(*impl.Governor)) {
		g := exampleGovernor()
		change(&g)
		list = append(list, g)
	}
	for _, m := range badMills() {
		add(func(g *impl.Governor) { g.Mill = m })
	}
	for _, length := range notLengths {
		add(func(g *impl.Governor) { g.Area = length })
		add(func(g *impl.Governor) { g.Head = length })
		add(func(g *impl.Governor) { g.Inertia = length })
	}
	for _, low := range []float32{-tiny, -1, 3, above(3), fastest, inf, -inf, nan, otherNaN} {
		add(func(g *impl.Governor) { g.Low = low })
	}
	for _, high := range []float32{above(fastest), 2, below(2), 0, negZero, -3, inf, -inf, nan, otherNaN} {
		add(func(g *impl.Governor) { g.High = high })
	}
	add(func(g *impl.Governor) { g.Low, g.High = 0, negZero })
	add(func(g *impl.Governor) { g.Low, g.High = negZero, 0 })
	return list
}

// badStates are states that are not valid, each for one reason.
func badStates() []impl.State {
	list := []impl.State{}
	for _, speed := range notSpeeds {
		list = append(list, stateOf(speed, 3))
	}
	for _, gate := range []int8{-1, 17, math.MinInt8, math.MaxInt8} {
		list = append(list, stateOf(2, gate))
	}
	return list
}

// The following ones follow the document's words with wide numbers, each of
// which is rounded at once.

func wantWaterSpeed(head float32) float32 {
	return rounds(math.Sqrt(float64(product(19.625, head))))
}

func wantFlow(area, head float32, gate int64) float32 {
	return product(quotient(product(area, float32(gate)), 16), wantWaterSpeed(head))
}

// rate is how many buckets take water.
func rate(m impl.Mill, speed float32) float32 { return product(speed, float32(m.Buckets)) }

func wantFill(m impl.Mill, flow, speed float32) float32 {
	if flow == 0 {
		return 0
	}
	if speed == 0 {
		return m.Holds
	}
	if fill := quotient(flow, rate(m, speed)); fill < m.Holds {
		return fill
	}
	return m.Holds
}

func wantSpilled(m impl.Mill, flow, speed float32) float32 {
	if spilled := difference(flow, product(wantFill(m, flow, speed), rate(m, speed))); spilled > 0 {
		return spilled
	}
	return 0
}

func wantMillTorque(m impl.Mill, flow, speed float32) float32 {
	weight := product(product(wantFill(m, flow, speed), 9.8125), float32((m.Buckets-m.Buckets%2)/2))
	return product(product(weight, m.Radius), 0.625)
}

func wantTorqueAt(g impl.Governor, s impl.State) float32 {
	return wantMillTorque(g.Mill, wantFlow(g.Area, g.Head, int64(s.Gate)), s.Speed)
}

func wantGate(g impl.Governor, s impl.State) int8 {
	if s.Speed > g.High && s.Gate > 0 {
		return s.Gate - 1
	}
	if s.Speed < g.Low && s.Gate < 16 {
		return s.Gate + 1
	}
	return s.Gate
}

func wantTick(g impl.Governor, s impl.State, load float32) impl.State {
	next := stateOf(s.Speed, wantGate(g, s))
	next.Speed = sum(s.Speed, quotient(difference(wantTorqueAt(g, next), load), g.Inertia))
	if !(next.Speed > 0) {
		next.Speed = 0
	}
	if next.Speed > fastest {
		next.Speed = fastest
	}
	return next
}

func wantTicks(g impl.Governor, s impl.State, loads []float32) []impl.State {
	list := []impl.State{}
	for _, load := range loads {
		s = wantTick(g, s, load)
		list = append(list, s)
	}
	return list
}

func wantWithin(g impl.Governor, s impl.State, loads []float32) (int, int) {
	from, code := 0, impl.ErrNotFound
	for i, state := range wantTicks(g, s, loads) {
		if state.Speed < g.Low || state.Speed > g.High {
			from, code = 0, impl.ErrNotFound
		} else if code != 0 {
			from, code = i, 0
		}
	}
	return from, code
}

func wantSteady(g impl.Governor, s impl.State, load float32) (impl.State, int, int) {
	for ticks := range 100 {
		next := wantTick(g, s, load)
		if next.Gate == s.Gate && sameNumbers(next.Speed, s.Speed) {
			return s, ticks, 0
		}
		s = next
	}
	return impl.State{}, 0, impl.ErrNotFound
}

func wantBestGate(g impl.Governor, speed, load float32) int8 {
	off := func(gate int8) float64 {
		return math.Abs(float64(difference(wantTorqueAt(g, stateOf(speed, gate)), load)))
	}
	best := int8(16)
	for gate := int8(15); gate >= 0; gate-- {
		if off(gate) <= off(best) {
			best = gate
		}
	}
	return best
}

func wantLeastGate(g impl.Governor, speed, load float32) (int8, int) {
	least, code := int8(0), impl.ErrNotFound
	for gate := int8(16); gate >= 0; gate-- {
		if wantTorqueAt(g, stateOf(speed, gate)) >= load {
			least, code = gate, 0
		}
	}
	return least, code
}
