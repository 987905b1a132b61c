package impl

import (
	"iter"
	"math"
	"slices"
	"strconv"
	"strings"
)

// Codes of errors.
const (
	OK          = 0
	ErrInvalid  = 1
	ErrRange    = 2
	ErrLimit    = 3
	ErrState    = 4
	ErrSyntax   = 5
	ErrNotFound = 6
	ErrBudget   = 7
	ErrProof    = 8
)

// Limits of numbers, and of trains.
const (
	MaxSize  = 1048576
	MaxPairs = 8
	MinTeeth = 6
	MaxTeeth = 200
)

// Pair is a pair of wheels.
type Pair struct {
	Driver int16
	Driven int16
	Loss   float32
}

// Train has pairs of wheels.
type Train []Pair

// Products are converted to float32 throughout, though they have this type
// already: only a conversion keeps a compiler from fusing a product with a sum
// that it goes into, here or in a caller, and so from rounding once only.

// CodeName returns the name of an error code.
func CodeName(code int64) string {
	names := [...]string{
		OK:          "ok",
		ErrInvalid:  "invalid",
		ErrRange:    "range",
		ErrLimit:    "limit",
		ErrState:    "state",
		ErrSyntax:   "syntax",
		ErrNotFound: "notfound",
		ErrBudget:   "budget",
		ErrProof:    "proof",
	}
	if code < 0 || code >= int64(len(names)) {
		return ""
	}
	return names[code]
}

// SameNumber reports whether two numbers are the same.
func SameNumber(a, b float32) bool { return bitsOf(a) == bitsOf(b) }

// bitsOf returns the bits of a number, and the same ones for every NaN.
func bitsOf(a float32) uint32 {
	if math.IsNaN(float64(a)) {
		return 0x7fc00000
	}
	return math.Float32bits(a)
}

// IsPlain reports whether a number is plain.
func IsPlain(a float32) bool { return a >= -MaxSize && a <= MaxSize }

// IsPart reports whether a number is a part.
func IsPart(a float32) bool { return a >= 0 && a <= 1 }

// isPlainSize reports whether a number is the size of a plain one.
func isPlainSize(a float32) bool { return a >= 0 && a <= MaxSize }

// sizeOf returns the size of a number; that of -0 is -0.
func sizeOf(a float32) float32 {
	if a < 0 {
		return 0 - a
	}
	return a
}

// ValidTrain reports whether a train is valid.
func ValidTrain(t Train) bool {
	for _, holds := range trainRules() {
		if !holds(t) {
			return false
		}
	}
	return true
}

// trainRules has the number of pairs first, so that only a few pairs are ever
// looked at.
func trainRules() [3]func(Train) bool {
	return [...]func(Train) bool{Train.hasPairs, Train.hasTeeth, Train.hasParts}
}

func (t Train) hasPairs() bool { return len(t) >= 1 && len(t) <= MaxPairs }

func (t Train) hasTeeth() bool {
	for _, p := range t {
		if !areTeeth(int64(p.Driver)) || !areTeeth(int64(p.Driven)) {
			return false
		}
	}
	return true
}

func (t Train) hasParts() bool {
	for _, p := range t {
		if !IsPart(p.Loss) {
			return false
		}
	}
	return true
}

func areTeeth(teeth int64) bool { return teeth >= MinTeeth && teeth <= MaxTeeth }

// SameTrain reports whether all numbers of two trains are the same.
func SameTrain(a, b Train) bool {
	return slices.EqualFunc(a, b, Pair.sameAs)
}

func (p Pair) sameAs(q Pair) bool {
	return p.Driver == q.Driver && p.Driven == q.Driven && SameNumber(p.Loss, q.Loss)
}

// RatioOf returns the ratio of a train.
func RatioOf(t Train) (int64, int64, int64) {
	if !ValidTrain(t) {
		return 0, 0, ErrInvalid
	}
	drivers, driven := int64(1), int64(1)
	for _, p := range t {
		drivers *= int64(p.Driver)
		driven *= int64(p.Driven)
	}
	common := greatestDivisor(drivers, driven)
	return drivers / common, driven / common, OK
}

// greatestDivisor returns the greatest common divisor of two numbers above 0.
func greatestDivisor(a, b int64) int64 {
	for b != 0 {
		a, b = b, a%b
	}
	return a
}

// axles goes through what the axles of a train carry, from the axle 0 on, if
// this one carries first, and each pair passes it on.
func (t Train) axles(first float32, pass func(Pair, float32) float32) iter.Seq[float32] {
	return func(yield func(float32) bool) {
		carried := first
		if !yield(carried) {
			return
		}
		for _, p := range t {
			carried = pass(p, carried)
			if !yield(carried) {
				return
			}
		}
	}
}

// allAxles returns what each axle carries.
func (t Train) allAxles(first float32, pass func(Pair, float32) float32) []float32 {
	list := make([]float32, 0, len(t)+1)
	for carried := range t.axles(first, pass) {
		list = append(list, carried)
	}
	return list
}

// lastAxle returns what the last axle carries.
func (t Train) lastAxle(first float32, pass func(Pair, float32) float32) float32 {
	last := first
	for carried := range t.axles(first, pass) {
		last = carried
	}
	return last
}

func (p Pair) forward() float32 { return float32(p.Driver) / float32(p.Driven) }

func (p Pair) backward() float32 { return float32(p.Driven) / float32(p.Driver) }

func (p Pair) kept() float32 { return 1 - p.Loss }

func (p Pair) passFactor(factor float32) float32 { return float32(factor * p.forward()) }

func (p Pair) passSpeed(speed float32) float32 { return -float32(speed * p.forward()) }

func (p Pair) passTorque(torque float32) float32 {
	turned := float32(torque * p.backward())
	return -float32(turned * p.kept())
}

func (p Pair) passPart(part float32) float32 { return float32(part * p.kept()) }

// FactorOf returns the ratio of a train as a number.
func FactorOf(t Train) (float32, int64) {
	if !ValidTrain(t) {
		return 0, ErrInvalid
	}
	return t.lastAxle(1, Pair.passFactor), OK
}

// IsReversed reports whether the last axle turns against the first one.
func IsReversed(t Train) (bool, int64) {
	if !ValidTrain(t) {
		return false, ErrInvalid
	}
	return len(t)%2 == 1, OK
}

// driveError returns the error of a train that is driven with plain numbers.
func driveError(t Train, numbers ...float32) int64 {
	if !ValidTrain(t) {
		return ErrInvalid
	}
	for _, a := range numbers {
		if !IsPlain(a) {
			return ErrRange
		}
	}
	return OK
}

// SpeedsOf returns the speeds of all axles.
func SpeedsOf(t Train, speed float32) ([]float32, int64) {
	if code := driveError(t, speed); code != OK {
		return nil, code
	}
	return t.allAxles(speed, Pair.passSpeed), OK
}

// TorquesOf returns the torques of all axles.
func TorquesOf(t Train, torque float32) ([]float32, int64) {
	if code := driveError(t, torque); code != OK {
		return nil, code
	}
	return t.allAxles(torque, Pair.passTorque), OK
}

// PowersOf returns the powers of all axles.
func PowersOf(t Train, speed, torque float32) ([]float32, int64) {
	if code := driveError(t, speed, torque); code != OK {
		return nil, code
	}
	powers := t.allAxles(speed, Pair.passSpeed)
	for i, carried := range t.allAxles(torque, Pair.passTorque) {
		powers[i] = float32(powers[i] * carried)
	}
	return powers, OK
}

// EfficiencyOf returns which part of the torque is left.
func EfficiencyOf(t Train) (float32, int64) {
	if !ValidTrain(t) {
		return 0, ErrInvalid
	}
	return t.lastAxle(1, Pair.passPart), OK
}

// LostPower returns the power that is lost.
func LostPower(t Train, speed, torque float32) (float32, int64) {
	powers, code := PowersOf(t, speed, torque)
	if code != OK {
		return 0, code
	}
	return powers[0] - powers[len(powers)-1], OK
}

// WorstPair returns the pair with the greatest loss.
func WorstPair(t Train) (int64, float32, int64) {
	if !ValidTrain(t) {
		return 0, 0, ErrInvalid
	}
	greatest := t[0].Loss
	for _, p := range t {
		greatest = max(greatest, p.Loss)
	}
	pair := t.firstWithLoss()[lossKey(greatest)]
	return pair, t[pair].Loss, OK
}

// firstWithLoss tells for the key of each loss the first pair that has it.
func (t Train) firstWithLoss() map[uint32]int64 {
	first := map[uint32]int64{}
	for i, p := range t {
		key := lossKey(p.Loss)
		if _, found := first[key]; !found {
			first[key] = int64(i)
		}
	}
	return first
}

// lossKey returns the bits of a loss; those of 0 for -0, which is equal.
func lossKey(loss float32) uint32 {
	if loss == 0 {
		return 0
	}
	return math.Float32bits(loss)
}

// pairError returns the error of a train and the index of one of its pairs.
func pairError(t Train, pair int64) int64 {
	if !ValidTrain(t) {
		return ErrInvalid
	}
	if pair < 0 || pair >= int64(len(t)) {
		return ErrRange
	}
	return OK
}

// start returns the first n pairs, with no room behind them: whoever appends
// gets new memory, and never writes into that of t.
func (t Train) start(n int64) Train { return t[:n:n] }

// WithLoss replaces a loss.
func WithLoss(t Train, pair int64, loss float32) (Train, int64) {
	if code := pairError(t, pair); code != OK {
		return nil, code
	}
	if !IsPart(loss) {
		return nil, ErrRange
	}
	replaced := Pair{Driver: t[pair].Driver, Driven: t[pair].Driven, Loss: loss}
	with := append(t.start(pair), replaced)
	return append(with, t[pair+1:]...), OK
}

// BackTrain returns the train that is driven from its last axle.
func BackTrain(t Train) (Train, int64) {
	if !ValidTrain(t) {
		return nil, ErrInvalid
	}
	back := make(Train, 0, len(t))
	for _, p := range slices.Backward(t) {
		back = append(back, Pair{Driver: p.Driven, Driven: p.Driver, Loss: p.Loss})
	}
	return back, OK
}

// JoinTrains returns the pairs of two trains.
func JoinTrains(a, b Train) (Train, int64) {
	if !ValidTrain(a) || !ValidTrain(b) {
		return nil, ErrInvalid
	}
	if len(a)+len(b) > MaxPairs {
		return nil, ErrLimit
	}
	return append(a.start(int64(len(a))), b...), OK
}

// RadiusOf returns the radius of a wheel.
func RadiusOf(teeth int64, module float32) (float32, int64) {
	if !areTeeth(teeth) || !isModule(module) {
		return 0, ErrRange
	}
	return radius(teeth, module), OK
}

func isModule(module float32) bool { return module >= 1.0/16 && module <= 64 }

func radius(teeth int64, module float32) float32 {
	return float32(float32(float32(teeth)*module) / 2)
}

// DistancesOf returns how far axles are apart.
func DistancesOf(t Train, module float32) ([]float32, int64) {
	if !ValidTrain(t) {
		return nil, ErrInvalid
	}
	if !isModule(module) {
		return nil, ErrRange
	}
	distances := make([]float32, 0, len(t))
	for _, p := range t {
		distances = append(distances, radius(int64(p.Driver), module)+radius(int64(p.Driven), module))
	}
	return distances, OK
}

// TurnsToMeet returns how many turns it takes until two teeth meet again.
func TurnsToMeet(t Train, pair int64) (int64, int64) {
	if code := pairError(t, pair); code != OK {
		return 0, code
	}
	driver, driven := int64(t[pair].Driver), int64(t[pair].Driven)
	return driven / greatestDivisor(driver, driven), OK
}

// NumberText returns the text of a number.
func NumberText(a float32) string {
	digits := strconv.FormatUint(uint64(bitsOf(a)), 16)
	return strings.Repeat("0", 8-len(digits)) + digits
}

// ReadNumber returns the number with a text.
func ReadNumber(text string) (float32, int64) {
	bits, err := strconv.ParseUint(text, 16, 32)
	if err != nil {
		return 0, ErrSyntax
	}
	a := math.Float32frombits(uint32(bits))
	// ParseUint takes more than texts of numbers: other lengths, great letters,
	// and the bits of every NaN.
	if NumberText(a) != text {
		return 0, ErrSyntax
	}
	return a, OK
}

// readNumbers returns the numbers with several texts; false if one is no text
// of a number.
func readNumbers(texts []string) ([]float32, bool) {
	list := make([]float32, 0, len(texts))
	for _, text := range texts {
		number, code := ReadNumber(text)
		if code != OK {
			return nil, false
		}
		list = append(list, number)
	}
	return list, true
}

// TrainText returns the text of a train.
func TrainText(t Train) string {
	if !ValidTrain(t) {
		return ""
	}
	texts := make([]string, 0, len(t))
	for _, p := range t {
		texts = append(texts, p.text())
	}
	return strings.Join(texts, " ")
}

func (p Pair) text() string {
	return strconv.Itoa(int(p.Driver)) + "/" + strconv.Itoa(int(p.Driven)) + ":" + NumberText(p.Loss)
}

// ReadTrain returns the train with a text.
func ReadTrain(text string) (Train, int64) {
	var t Train
	for _, word := range strings.SplitN(text, " ", MaxPairs+1) {
		p, ok := readPair(word)
		if !ok {
			return nil, ErrSyntax
		}
		t = append(t, p)
	}
	if !ValidTrain(t) {
		return nil, ErrSyntax
	}
	return t, OK
}

// readPair returns the pair with a text; its numbers need not be valid.
func readPair(text string) (Pair, bool) {
	teeth, lossText, _ := strings.Cut(text, ":")
	driverText, drivenText, _ := strings.Cut(teeth, "/")
	driver, err := strconv.ParseInt(driverText, 10, 16)
	if err != nil {
		return Pair{}, false
	}
	driven, err := strconv.ParseInt(drivenText, 10, 16)
	if err != nil {
		return Pair{}, false
	}
	loss, code := ReadNumber(lossText)
	if code != OK {
		return Pair{}, false
	}
	p := Pair{Driver: int16(driver), Driven: int16(driven), Loss: loss}
	// ParseInt takes signs and zeros in front, too, which no text has.
	return p, p.text() == text
}
