package tests

import (
	"math"
	"testing"

	"loop.example/g01344/impl"
)

// Promise 19 is of all chapters together: what one of them finds is told once
// more by others.

// expectNoPower expects that no axle of a train has more power than the one
// before. Quotients that are no powers of 2 are rounded, so that it may be more
// by some last bits.
func expectNoPower(t *testing.T, train impl.Train, speed, torque float32) {
	t.Helper()
	powers, one := impl.PowersOf(train, speed, torque)
	lost, two := impl.LostPower(train, speed, torque)
	if one != 0 || two != 0 || len(powers) != len(train)+1 {
		t.Fatalf("%v has the powers %v (%v), and loses %v (%v)", train, powers, one, lost, two)
	}
	sign := float64(signOf(powers[0]))
	for i := range train {
		before, behind := sign*float64(powers[i]), sign*float64(powers[i+1])
		fromNothing := sign == 0 && powers[i+1] != 0
		if behind < 0 || behind > before*(1+1e-6) || fromNothing {
			t.Errorf("%v makes power: %v", train, powers)
		}
	}
	if sign*float64(lost) < -1e-5*sign*float64(powers[0]) || sign*float64(lost) > sign*float64(powers[0]) {
		t.Errorf("%v loses %v of %v", train, lost, powers)
	}
}

// Promise 19: no power is made along a train, in whichever direction it turns,
// nor if it is driven from its other end, or joined with another one.
func TestPromise19OfTrains(t *testing.T) {
	p := picker(161)
	for _, train := range someTrains(3000) {
		back, _ := impl.BackTrain(train)
		list := []impl.Train{train, back}
		if len(train) <= 4 {
			both, code := impl.JoinTrains(train, back)
			if code != 0 || len(both) != 2*len(train) {
				t.Fatalf("%v is not joined: %v", train, code)
			}
			list = append(list, both)
		}
		for _, train := range list {
			speed, torque := p.between(1.0/1024, plainest), p.between(1.0/1024, plainest)
			for _, sign := range []float32{1, -1} {
				expectNoPower(t, train, sign*speed, torque)
				expectNoPower(t, train, speed, sign*torque)
				expectNoPower(t, train, -speed, sign*torque)
			}
			for _, none := range []float32{0, negZero} {
				expectNoPower(t, train, none, torque)
				expectNoPower(t, train, speed, none)
			}
		}
		expectLess(t, train)
	}
}

// expectLess expects that no pair lets through more than comes from the pairs
// before it; this holds exactly.
func expectLess(t *testing.T, train impl.Train) {
	t.Helper()
	before := float32(1)
	for pairs := 1; pairs <= len(train); pairs++ {
		part, code := impl.EfficiencyOf(train[:pairs])
		if code != 0 || !(part >= 0 && part <= before) {
			t.Errorf("%v has the efficiency %v with %v pairs (%v), and %v with one less", train, part, pairs, code, before)
		}
		before = part
	}
	pair, loss, code := impl.WorstPair(train)
	if code != 0 || before > 1-loss {
		t.Errorf("%v has the efficiency %v, but the pair %v loses %v (%v)", train, before, pair, loss, code)
	}
}

// Promise 19: change wheels make no power, and wheels that wear no more.
func TestPromise19OfChangeWheels(t *testing.T) {
	p := picker(162)
	for _, c := range someBoxCases(300, 24) {
		choice, _, code := impl.BestChoice(c.box, c.target)
		if code != 0 {
			continue
		}
		train, one := impl.TrainFor(c.box, choice)
		part, two := impl.EfficiencyOf(train)
		expect(t, "a train without loss", show(one, two, part), show(0, 0, 1))
		expectNoPower(t, train, p.between(1, plainest), p.between(1, plainest))
		for pair := range int64(2) {
			with, code := impl.WithLoss(train, pair, p.loss())
			if code != 0 {
				t.Fatalf("%v has no loss: %v", train, code)
			}
			expectNoPower(t, with, p.between(1, plainest), p.between(1, plainest))
			expectLess(t, with)
		}
	}
}

// Promise 19: no choice of wheels is nearer than the best one, as the trains
// tell that they make.
func TestPromise19OfChoices(t *testing.T) {
	tried := 0
	for _, c := range someBoxCases(250, 12) {
		best, least, code := impl.BestChoice(c.box, c.target)
		if len(c.box) < 4 {
			expect(t, "no choice", show(best, least, code), show(impl.Choice{}, 0, impl.ErrNotFound))
			continue
		}
		tried++
		reached := false
		for _, choice := range wantChoices(c.box) {
			train, one := impl.TrainFor(c.box, choice)
			factor, two := impl.FactorOf(train)
			off, three := impl.OffBy(factor, c.target)
			if one != 0 || two != 0 || three != 0 || code != 0 || off < least {
				t.Errorf("%v: %v is off by %v, but the best choice %v by %v", c, choice, off, best, least)
			}
			if choice == best {
				reached = off == least
			}
		}
		if !reached {
			t.Errorf("%v: the best choice %v is not off by %v", c, best, least)
		}
	}
	if tried < 150 {
		t.Errorf("only %v boxes have choices", tried)
	}
}

// Promise 19 of pairs, of wheels that are added, and of fractions.
func TestPromise19OfPairsAndFractions(t *testing.T) {
	for _, c := range someBoxCases(1000, 24) {
		_, _, least, one := impl.BestPair(c.box, c.target)
		for _, pair := range wantPairs(c.box) {
			factor, _ := impl.FactorOfPair(c.box, pair[0], pair[1])
			if off, code := impl.OffBy(factor, c.target); one != 0 || code != 0 || off < least {
				t.Errorf("%v: the pair %v is off by %v, but the best one by %v", c, pair, off, least)
			}
		}
	}
	for _, c := range someBoxCases(100, 23) {
		teeth, least, one := impl.AddWheel(c.box, c.target)
		for _, other := range wantAdded(c.box) {
			_, _, off, two := impl.BestPair(withWheel(c.box, other), c.target)
			if one != 0 || two != 0 || off < least || int64(other) == teeth && off != least {
				t.Errorf("%v: with %v teeth it is off by %v, but with %v by %v", c, other, off, teeth, least)
			}
		}
	}
	for _, a := range someNumbers(200) {
		for _, most := range []int64{1, 7, 100} {
			nearest, code := impl.NearestFraction(a, most)
			if code != 0 {
				t.Fatalf("%v has no fraction: %v", a, code)
			}
			best := distance(exact(a), ratOf(nearest))
			for den := int64(1); den <= most; den++ {
				num := int64(math.Round(float64(a) * float64(den)))
				if distance(exact(a), ratOf(fractionOf(num, den))).Cmp(best) < 0 {
					t.Errorf("%v is nearer to %v / %v than to %v", a, num, den, nearest)
				}
			}
		}
	}
}

// Promise 19 of gates and of feeds, which are chosen, too.
func TestPromise19OfGatesAndFeeds(t *testing.T) {
	p := picker(163)
	for _, g := range someGovernors(2000) {
		speed := p.wheelSpeed()
		load := p.load(g, speed)
		best, code := impl.BestGate(g, speed, load)
		offOf := func(gate int64) float32 {
			torque, _ := impl.TorqueAt(g, stateOf(speed, int8(gate)))
			return float32(math.Abs(float64(difference(torque, load))))
		}
		for gate := range int64(17) {
			if code != 0 || offOf(gate) < offOf(best) {
				t.Errorf("%+v at %v: the gate %v is nearer to the load %v than %v (%v)", g, speed, gate, load, best, code)
			}
		}
	}
	for _, s := range someStones(1000) {
		torque, feeds := p.between(1, plainest), []float32{0, 1, p.between(1.0/16, 1024), p.between(1.0/16, 1024), 1024}
		best, most, code := impl.BestFeed(s, torque, feeds)
		for _, feed := range feeds {
			_, flour, one := impl.GrindHour(s, torque, feed)
			if code != 0 || one != 0 || flour > most {
				t.Errorf("%+v grinds %v of %v, but %v of the best feed %v (%v)", s, flour, feed, most, feeds[best], code)
			}
		}
	}
}

// Promise 19: a belt that is found is no longer than told, whether its distance
// is looked for, a radius, or a cone.
func TestPromise19OfBelts(t *testing.T) {
	p, apartFound, radiiFound := picker(164), 0, 0
	for _, b := range someBelts(3000) {
		own, _ := impl.LengthOf(b)
		for _, length := range []float32{own, below(own), above(own), 2 * own, p.between(own/2, 2*own), p.between(1, plainest), plainest, 0} {
			if !isSize(length) {
				continue
			}
			apart, code := impl.ApartFor(b, length)
			if code == 0 {
				found := b
				found.Apart = apart
				if reached, code := impl.LengthOf(found); code != 0 || reached > length {
					t.Errorf("%+v is %v long (%v), not %v", found, reached, code, length)
				}
				apartFound++
			}
			radius, code := impl.RadiusFor(b, b.A, length)
			if code == 0 {
				// Such a belt need not be valid by its roundings.
				if reached := withRadii(b, b.A)(radius); reached > length || !(radius >= leastRadius && radius <= greatestRadius) {
					t.Errorf("%+v with the radius %v is %v long, not %v", b, radius, reached, length)
				}
				radiiFound++
			}
		}
	}
	if apartFound < 8000 || radiiFound < 5000 {
		t.Errorf("only %v distances and %v radii are found", apartFound, radiiFound)
	}
}

func TestPromise19OfCones(t *testing.T) {
	p, found := picker(165), 0
	for _, b := range someBelts(3000) {
		length, _ := impl.LengthOf(b)
		radii := []float32{b.A, max(b.A/2, leastRadius), max(b.A*p.between(0.25, 1), leastRadius)}
		cone, code := impl.ConeFor(b, radii)
		if code != 0 {
			continue
		}
		found++
		for i, radius := range cone {
			if reached := withRadii(b, radii[i])(radius); reached > length {
				t.Errorf("the step %v, %v of %+v is %v long, not %v", radii[i], radius, b, reached, length)
			}
		}
	}
	if found < 2000 {
		t.Errorf("only %v cones are found", found)
	}
}

// Promise 19 of invalid arguments: what is found has the errors of what it is
// found from, and is nothing beside an error.
func TestPromise19OfErrors(t *testing.T) {
	for _, train := range append(badTrains(), exampleTrain()) {
		for _, x := range append([]float32{1}, notPlains...) {
			powers, one := impl.PowersOf(train, x, 1)
			lost, two := impl.LostPower(train, 1, x)
			want := 0
			switch {
			case !impl.ValidTrain(train):
				want = impl.ErrInvalid
			case x != 1:
				want = impl.ErrRange
			}
			expect(t, "errors of powers", show(one, two), show(want, want))
			if want != 0 {
				expect(t, "no power", show(len(powers), lost), show(0, 0))
			}
		}
	}
	for _, box := range badBoxes() {
		best, off, one := impl.BestChoice(box, 0.5)
		train, two := impl.TrainFor(box, choiceOf(0, 1, 2, 3))
		expect(t, "errors of choices", show(best, off, one, len(train), two), show(impl.Choice{}, 0, 1, 0, 1))
	}
	for _, x := range notTargets {
		best, off, code := impl.BestChoice(exampleBox(), x)
		expect(t, "errors of targets", show(best, off, code), show(impl.Choice{}, 0, 2))
	}
	for _, b := range badBelts() {
		radius, one := impl.RadiusFor(b, 4, 60)
		cone, two := impl.ConeFor(b, []float32{4})
		expect(t, "errors of belts", show(radius, one, len(cone), two), show(0, 1, 0, 1))
	}
	for _, x := range notSizes {
		apart, one := impl.ApartFor(exampleBelt(), x)
		radius, two := impl.RadiusFor(exampleBelt(), 4, x)
		expect(t, "errors of lengths", show(apart, one, radius, two), show(0, 2, 0, 2))
	}
}
