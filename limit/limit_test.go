package limit

import (
	"math"
	"math/big"
	"slices"
	"testing"

	"clew/api"
)

var (
	nan     = math.NaN()
	inf     = math.Inf(1)
	negZero = math.Copysign(0, -1)
	tiny    = math.SmallestNonzeroFloat64
	huge    = math.MaxFloat64
)

const top = 1 << 62

// kinds are numbers of each of the seven kinds, by their kinds, each with its least and its greatest ones.
var kinds = [7][]float64{
	{nan, math.Copysign(nan, -1), math.Float64frombits(0x7ff8000000000000), math.Float64frombits(0xfff8000000000123), math.Float64frombits(0x7fffffffffffffff)},
	{math.Inf(-1)},
	{-huge, -1e300, -1 << 62, -2, -1, -0.5, -0x1p-1022, -tiny},
	{negZero},
	{0},
	{tiny, 0x1p-1023, 0x1p-1022, 0.1, 0.5, 1, 1.5, 2, 1000, 1 << 53, 1 << 62, 1 << 63, 1e300, huge},
	{inf},
}

func numbers() []float64 {
	var l []float64
	for _, k := range kinds {
		l = append(l, k...)
	}
	return l
}

func budgets() []Budget {
	var l []Budget
	for _, steps := range numbers() {
		for _, room := range numbers() {
			l = append(l, Budget{steps, room})
		}
	}
	return l
}

// plainRight is what the words say; 0 with a minus is not below 0.
func plainRight(b Budget) bool {
	return b.Steps == b.Steps && b.Room == b.Room && !(b.Steps < 0) && !(b.Room < 0)
}

// same tells 0 from 0 with a minus, and holds what is no number to be the same as what is none.
func same(x, y float64) bool {
	return x != x && y != y || math.Float64bits(x) == math.Float64bits(y)
}

func sameBudget(a, b Budget) bool { return same(a.Steps, b.Steps) && same(a.Room, b.Room) }

func wantScale(t *testing.T, b Budget, x float64, want Budget, wrong api.Errno) {
	t.Helper()
	if got, gotWrong := Scale(b, x); !sameBudget(got, want) || gotWrong != wrong {
		t.Errorf("Scale(%v, %v) = %v, %d; want %v, %d", b, x, got, gotWrong, want, wrong)
	}
}

func newMeter(t *testing.T, steps, room float64) *Meter {
	t.Helper()
	m, wrong := New(Budget{steps, room})
	if m == nil || wrong != api.OK {
		t.Fatalf("New(%v, %v) = %v, %d", steps, room, m, wrong)
	}
	return m
}

func wantUsed(t *testing.T, m *Meter, steps, peak uint64) {
	t.Helper()
	if gotSteps, gotPeak := m.Used(); gotSteps != steps || gotPeak != peak {
		t.Errorf("Used() = %d, %d; want %d, %d", gotSteps, gotPeak, steps, peak)
	}
}

func wantStep(t *testing.T, m *Meter, n int, want bool) {
	t.Helper()
	if m.Step(n) != want {
		t.Errorf("Step(%d) of %v is not %v", n, *m, want)
	}
}

func wantHold(t *testing.T, m *Meter, n int, want bool) {
	t.Helper()
	if m.Hold(n) != want {
		t.Errorf("Hold(%d) of %v is not %v", n, *m, want)
	}
}

// model is a meter by whole numbers without end, and by the words.
type model struct {
	steps, room      float64
	used, held, peak *big.Int
}

func newModel(steps, room float64) *model {
	return &model{steps, room, new(big.Int), new(big.Int), new(big.Int)}
}

// asFloat is the number as a float64: the next one, or of two that are as near the even one.
func asFloat(n *big.Int) float64 {
	f, _ := new(big.Float).SetInt(n).Float64()
	return f
}

func cut(n *big.Int) {
	if greatest := big.NewInt(top); n.Cmp(greatest) > 0 {
		n.Set(greatest)
	}
	if n.Sign() < 0 {
		n.SetInt64(0)
	}
}

func (m *model) step(n int) bool {
	if n > 0 {
		m.used.Add(m.used, big.NewInt(int64(n)))
	}
	cut(m.used)
	return asFloat(m.used) <= m.steps
}

func (m *model) hold(n int) bool {
	m.held.Add(m.held, big.NewInt(int64(n)))
	cut(m.held)
	if m.held.Cmp(m.peak) > 0 {
		m.peak.Set(m.held)
	}
	return asFloat(m.held) <= m.room
}

// P4.1

func TestKind(t *testing.T) {
	for kind, l := range kinds {
		for _, x := range l {
			if got := Kind(x); got != kind {
				t.Errorf("Kind(%v) = %d; want %d", x, got, kind)
			}
		}
	}
}

func TestKindOfWhatIsWorkedOut(t *testing.T) {
	for _, c := range []struct {
		x    float64
		want int
	}{
		{inf - inf, 0}, {0 * inf, 0}, {huge * 2, 6}, {-huge * 2, 1}, {tiny / 2, 4}, {-tiny / 2, 3}, {-(negZero), 4}, {negZero * 5, 3}, {1 / inf, 4}, {-1 / inf, 3},
	} {
		if got := Kind(c.x); got != c.want {
			t.Errorf("Kind(%v) = %d; want %d", c.x, got, c.want)
		}
	}
}

// P4.1: each number in each of both places, beside each other one.
func TestRight(t *testing.T) {
	for kindA, a := range kinds {
		for kindB, b := range kinds {
			for _, steps := range a {
				for _, room := range b {
					if want := kindA >= 3 && kindB >= 3; Right(Budget{steps, room}) != want {
						t.Errorf("Right(%v, %v) is not %v", steps, room, want)
					}
				}
			}
		}
	}
	if !Right(Budget{}) {
		t.Error("the zero budget may be")
	}
}

// P4.2

func TestLeastByHand(t *testing.T) {
	for _, c := range []struct{ a, b, want Budget }{
		{Budget{1, 2}, Budget{2, 1}, Budget{1, 1}},
		{Budget{5, 6}, Budget{5, 6}, Budget{5, 6}},
		{Budget{inf, 3}, Budget{7, inf}, Budget{7, 3}},
		{Budget{inf, inf}, Budget{inf, inf}, Budget{inf, inf}},
		{Budget{huge, tiny}, Budget{inf, 0}, Budget{huge, 0}},
		// Neither zero is below the other one: a's stays.
		{Budget{0, negZero}, Budget{negZero, 0}, Budget{0, negZero}},
		{Budget{negZero, 0}, Budget{0, negZero}, Budget{negZero, 0}},
		// Nothing is below no number, and that below nothing: a's stays.
		{Budget{nan, 1}, Budget{1, nan}, Budget{nan, 1}},
		{Budget{1, nan}, Budget{nan, 1}, Budget{1, nan}},
		{Budget{nan, inf}, Budget{math.Inf(-1), nan}, Budget{nan, inf}},
		{Budget{-1, -tiny}, Budget{-2, negZero}, Budget{-2, -tiny}},
		{Budget{-huge, 0}, Budget{math.Inf(-1), -tiny}, Budget{math.Inf(-1), -tiny}},
	} {
		if got := Least(c.a, c.b); !sameBudget(got, c.want) {
			t.Errorf("Least(%v, %v) = %v; want %v", c.a, c.b, got, c.want)
		}
	}
}

// P4.2: each number beside each other one, in both orders, in each of both places.
func TestLeastPlain(t *testing.T) {
	for _, x := range numbers() {
		for _, y := range numbers() {
			want := x
			if y < x {
				want = y
			}
			for _, z := range numbers() {
				if got := Least(Budget{x, z}, Budget{y, z}); !sameBudget(got, Budget{want, z}) {
					t.Errorf("Least of %v, %v as steps, beside %v: %v", x, y, z, got)
				}
				if got := Least(Budget{z, x}, Budget{z, y}); !sameBudget(got, Budget{z, want}) {
					t.Errorf("Least of %v, %v as room, beside %v: %v", x, y, z, got)
				}
			}
		}
	}
}

func TestScaleByHand(t *testing.T) {
	for _, c := range []struct {
		b    Budget
		x    float64
		want Budget
	}{
		{Budget{0, inf}, 2, Budget{0, inf}},
		{Budget{3, 5}, 2, Budget{6, 10}},
		{Budget{3, 5}, 0.5, Budget{1.5, 2.5}},
		{Budget{3, 5}, 0, Budget{0, 0}},
		{Budget{3, 5}, negZero, Budget{negZero, negZero}},
		{Budget{3, 5}, inf, Budget{inf, inf}},
		// Each product is rounded.
		{Budget{0.1, 1}, 3, Budget{0.30000000000000004, 3}},
		{Budget{1<<53 - 1, 7}, 0.1, Budget{900719925474099.1, 0.7000000000000001}},
		// A number becomes infinity, or 0, or is rounded up to the least one.
		{Budget{huge, 1}, 2, Budget{inf, 2}},
		{Budget{1, huge}, 1.5, Budget{1.5, inf}},
		{Budget{tiny, 1}, 0.5, Budget{0, 0.5}},
		{Budget{tiny, 1}, 0.75, Budget{tiny, 0.75}},
		// By what is below 0 no more than zeros may be, also those to which a product is rounded.
		{Budget{0, negZero}, -2, Budget{negZero, 0}},
		{Budget{0, 0}, -tiny, Budget{negZero, negZero}},
		{Budget{tiny, 0}, -0.5, Budget{negZero, negZero}},
		{Budget{negZero, 0}, 2, Budget{negZero, 0}},
		{Budget{}, 0, Budget{}},
	} {
		wantScale(t, c.b, c.x, c.want, api.OK)
	}
}

func TestScaleWrong(t *testing.T) {
	for _, c := range []struct {
		b Budget
		x float64
	}{
		// What comes out may not be: 0 times infinity is no number.
		{Budget{0, inf}, 0}, {Budget{0, inf}, negZero}, {Budget{inf, 0}, 0}, {Budget{0, 1}, inf}, {Budget{1, negZero}, inf}, {Budget{0, 0}, math.Inf(-1)},
		{Budget{1, 0}, -1}, {Budget{0, 1}, -1}, {Budget{tiny, 0}, -1}, {Budget{0, inf}, -2}, {Budget{huge, 0}, -2}, {Budget{1, 1}, math.Inf(-1)},
		{Budget{1, 1}, nan}, {Budget{0, 0}, nan}, {Budget{inf, inf}, nan},
		// The budget itself may not be, though what comes out may.
		{Budget{-1, -1}, -1}, {Budget{-1, 0}, 0}, {Budget{0, -1}, negZero}, {Budget{1, -tiny}, 0.5}, {Budget{math.Inf(-1), 1}, math.Inf(-1)},
		{Budget{nan, 1}, 1}, {Budget{1, nan}, 0}, {Budget{nan, nan}, nan}, {Budget{-1, 1}, 1}, {Budget{1, math.Inf(-1)}, 2},
	} {
		wantScale(t, c.b, c.x, Budget{}, api.ErrArg)
	}
}

// P4.2: each budget by each number.
func TestScalePlain(t *testing.T) {
	for _, b := range budgets() {
		for _, x := range numbers() {
			want, wrong := Budget{b.Steps * x, b.Room * x}, api.OK
			if !plainRight(b) || !plainRight(want) {
				want, wrong = Budget{}, api.ErrArg
			}
			wantScale(t, b, x, want, wrong)
		}
	}
}

// P4.3

func TestNew(t *testing.T) {
	for _, b := range budgets() {
		m, wrong := New(b)
		if !plainRight(b) {
			if m != nil || wrong != api.ErrArg {
				t.Errorf("New(%v) = %v, %d", b, m, wrong)
			}
			continue
		}
		if m == nil || wrong != api.OK {
			t.Fatalf("New(%v) = %v, %d", b, m, wrong)
		}
		wantUsed(t, m, 0, 0)
		wantStep(t, m, 0, true)
		wantHold(t, m, 0, true)
		wantUsed(t, m, 0, 0)
	}
}

func TestStep(t *testing.T) {
	m := newMeter(t, 5, 0)
	wantStep(t, m, 0, true)
	wantStep(t, m, 3, true)
	wantStep(t, m, 2, true)
	wantUsed(t, m, 5, 0)
	wantStep(t, m, -1, true)
	wantStep(t, m, -5, true)
	wantStep(t, m, math.MinInt, true)
	wantUsed(t, m, 5, 0)
	wantStep(t, m, 1, false)
	wantUsed(t, m, 6, 0)
	// What was refused once is refused on.
	wantStep(t, m, 0, false)
	wantStep(t, m, -1, false)
	wantStep(t, m, math.MinInt, false)
	wantUsed(t, m, 6, 0)
	wantStep(t, m, 100, false)
	wantUsed(t, m, 106, 0)
	// Of that nothing is seen in what is held.
	wantHold(t, m, 0, true)
}

// What is more than is left is used too, at once.
func TestStepOfMoreThanIsLeft(t *testing.T) {
	m := newMeter(t, 5, 7)
	wantStep(t, m, 6, false)
	wantUsed(t, m, 6, 0)
	wantStep(t, m, 1, false)
	wantUsed(t, m, 7, 0)
}

func TestStepOfBrokenAndNoBudgets(t *testing.T) {
	m := newMeter(t, 2.5, inf)
	wantStep(t, m, 2, true)
	wantStep(t, m, 1, false)
	for _, steps := range []float64{0, negZero, tiny, 0.999} {
		m := newMeter(t, steps, inf)
		wantStep(t, m, 0, true)
		wantStep(t, m, -3, true)
		wantStep(t, m, 1, false)
		wantUsed(t, m, 1, 0)
	}
}

func TestStepWithoutEnd(t *testing.T) {
	for _, steps := range []float64{inf, huge, 1 << 63, 1 << 62} {
		m := newMeter(t, steps, 0)
		wantStep(t, m, top-1, true)
		wantUsed(t, m, top-1, 0)
		wantStep(t, m, 1, true)
		wantUsed(t, m, top, 0)
		// At most 2^62 in all.
		for _, n := range []int{1, 0, -1, top, math.MaxInt, math.MinInt, 1} {
			wantStep(t, m, n, true)
			wantUsed(t, m, top, 0)
		}
	}
	below := newMeter(t, math.Nextafter(top, 0), 0)
	wantStep(t, below, math.MaxInt, false)
	wantUsed(t, below, top, 0)
	for _, n := range []int{top, top + 1, math.MaxInt - 1, math.MaxInt} {
		m := newMeter(t, inf, 0)
		wantStep(t, m, n, true)
		wantUsed(t, m, top, 0)
		one := newMeter(t, inf, 0)
		wantStep(t, one, 1, true)
		wantStep(t, one, n, true)
		wantUsed(t, one, top, 0)
	}
}

// What is used is held against the budget as a float64, so beyond 2^53 it is rounded, to the even one where two are as near.
func TestStepIsRounded(t *testing.T) {
	for _, c := range []struct {
		n     int
		steps float64
		want  bool
	}{
		{1 << 53, 1 << 53, true},
		{1<<53 + 1, 1 << 53, true},
		{1<<53 + 2, 1 << 53, false},
		{1<<53 + 2, 1<<53 + 2, true},
		{1<<53 + 3, 1<<53 + 2, false},
		{1<<53 + 3, 1<<53 + 4, true},
		{1 << 53, 1<<53 - 1, false},
		{top - 1, top, true},
		{top - 1, math.Nextafter(top, 0), false},
		{top - 256, math.Nextafter(top, 0), false},
		{top - 257, math.Nextafter(top, 0), true},
	} {
		m := newMeter(t, c.steps, c.steps)
		wantStep(t, m, c.n, c.want)
		wantHold(t, m, c.n, c.want)
		wantUsed(t, m, uint64(c.n), uint64(c.n))
	}
	m := newMeter(t, 1<<53, 0)
	wantStep(t, m, 1<<53, true)
	wantStep(t, m, 1, true)
	wantStep(t, m, 1, false)
	wantUsed(t, m, 1<<53+2, 0)
}

func TestHold(t *testing.T) {
	m := newMeter(t, 0, 5)
	wantHold(t, m, 3, true)
	wantHold(t, m, 2, true)
	wantUsed(t, m, 0, 5)
	wantHold(t, m, -4, true)
	wantHold(t, m, 3, true)
	wantUsed(t, m, 0, 5)
	wantHold(t, m, 2, false)
	wantUsed(t, m, 0, 6)
	// What was refused once is refused on, if no less is held.
	wantHold(t, m, 0, false)
	wantHold(t, m, 1, false)
	wantUsed(t, m, 0, 7)
	wantHold(t, m, -1, false)
	wantHold(t, m, -1, true)
	wantHold(t, m, 0, true)
	wantHold(t, m, 1, false)
	wantUsed(t, m, 0, 7)
	// Of that nothing is seen in the steps.
	wantStep(t, m, 0, true)
}

// Never less than nothing is held: what was let go too much is not missing later.
func TestHoldBelowNothing(t *testing.T) {
	for _, less := range []int{-1, -4, -5, -top, -top - 1, math.MinInt + 1, math.MinInt} {
		m := newMeter(t, 0, 3)
		wantHold(t, m, less, true)
		wantHold(t, m, 3, true)
		wantHold(t, m, less, true)
		wantUsed(t, m, 0, 3)
		held := 0
		if less == -1 {
			held = 2
		}
		wantHold(t, m, 3-held, true)
		wantUsed(t, m, 0, 3)
		wantHold(t, m, 1, false)
		wantUsed(t, m, 0, 4)
	}
}

func TestHoldWithoutEnd(t *testing.T) {
	for _, room := range []float64{inf, huge, 1 << 63, 1 << 62} {
		m := newMeter(t, 0, room)
		wantHold(t, m, top-1, true)
		wantUsed(t, m, 0, top-1)
		for _, n := range []int{1, 1, 0, top, math.MaxInt} {
			wantHold(t, m, n, true)
			wantUsed(t, m, 0, top)
		}
	}
	for _, n := range []int{top, top + 1, math.MaxInt - 1, math.MaxInt} {
		m := newMeter(t, 0, 10)
		wantHold(t, m, n, false)
		wantUsed(t, m, 0, top)
		// What was too much is not held: 2^62 less leaves nothing.
		wantHold(t, m, 11-top, false)
		wantHold(t, m, -1, true)
		wantHold(t, m, 0, true)
		wantHold(t, m, -10, true)
		wantHold(t, m, 10, true)
		wantUsed(t, m, 0, top)
	}
	m := newMeter(t, 0, 0)
	wantHold(t, m, top, false)
	wantHold(t, m, math.MinInt, true)
	wantHold(t, m, 1, false)
	wantUsed(t, m, 0, top)
}

func TestHoldOfBrokenAndNoRoom(t *testing.T) {
	m := newMeter(t, inf, 2.5)
	wantHold(t, m, 2, true)
	wantHold(t, m, 1, false)
	wantHold(t, m, -1, true)
	for _, room := range []float64{0, negZero, tiny, 0.999} {
		m := newMeter(t, inf, room)
		wantHold(t, m, 0, true)
		wantHold(t, m, -3, true)
		wantHold(t, m, 1, false)
		wantHold(t, m, -1, true)
		wantUsed(t, m, 0, 1)
	}
}

// P4.3: the peak is of what was held at once, not of all that was held ever.
func TestPeakIsAtOnce(t *testing.T) {
	m := newMeter(t, inf, inf)
	for range 50 {
		wantHold(t, m, 4, true)
		wantHold(t, m, -4, true)
	}
	wantUsed(t, m, 0, 4)
	for range 50 {
		wantStep(t, m, 4, true)
	}
	wantUsed(t, m, 200, 4)
	wantUsed(t, m, 200, 4)
}

// moves are counts at all the edges, in an order that leads to and fro.
var moves = []int{
	0, 1, -1, 2, 5, -3, 100, -1000, 7, math.MinInt, 1 << 53, 1, 1, -2, 3, -1 << 53, top - 1, 1, 1, -1, -top, -1, top, math.MaxInt, 0,
	-1, math.MinInt + 1, math.MaxInt, math.MaxInt, -math.MaxInt, top + 1, -5, -top + 5, 1, 255, 256, 257, 1 << 62, -256, -1, math.MinInt, 12, -4,
}

// rights are the numbers that a budget may have, at all the edges.
func rights() []float64 {
	return []float64{negZero, 0, tiny, 0.5, 1, 1.5, 2, 5, 6, 7, 100, 106, 1<<53 - 1, 1 << 53, 1<<53 + 2, math.Nextafter(top, 0), top, math.Nextafter(top, inf), 1 << 63, huge, inf}
}

// P4.3, against the model: from each place in the moves on, steps and holds by turns.
func TestMeterPlain(t *testing.T) {
	for _, steps := range rights() {
		for _, room := range rights() {
			for from := range moves {
				m, plain := newMeter(t, steps, room), newModel(steps, room)
				for i, n := range slices.Concat(moves[from:], moves[:from]) {
					if i%3 != 1 && m.Hold(n) != plain.hold(n) {
						t.Fatalf("Hold(%d) of %v against %v", n, *m, plain)
					}
					if i%3 != 2 && m.Step(n/(i%7+1)) != plain.step(n/(i%7+1)) {
						t.Fatalf("Step(%d) of %v against %v", n/(i%7+1), *m, plain)
					}
					wantUsed(t, m, plain.used.Uint64(), plain.peak.Uint64())
				}
			}
		}
	}
}

// Meters have nothing in common, and a copy goes its own way.
func TestMetersOnTheirOwn(t *testing.T) {
	b := Budget{3, 3}
	m, _ := New(b)
	other, _ := New(b)
	b.Steps, b.Room = 0, 0
	wantStep(t, m, 2, true)
	wantHold(t, m, 2, true)
	wantUsed(t, other, 0, 0)
	wantStep(t, other, 3, true)
	wantHold(t, other, 3, true)
	twin := *m
	wantUsed(t, &twin, 2, 2)
	wantStep(t, &twin, 2, false)
	wantHold(t, &twin, 2, false)
	wantUsed(t, m, 2, 2)
	wantStep(t, m, 1, true)
	wantHold(t, m, 1, true)
	wantUsed(t, &twin, 4, 4)
}

// P4.4: a greater budget allows what a lesser one does.
func TestGreaterAllowsMore(t *testing.T) {
	for i, less := range rights() {
		for _, more := range rights()[i:] {
			small, great := newMeter(t, less, less), newMeter(t, more, more)
			for _, n := range moves {
				if held, heldMore := small.Hold(n), great.Hold(n); held && !heldMore {
					t.Errorf("Hold(%d): %v allows what %v does not", n, less, more)
				}
				if used, usedMore := small.Step(n/3), great.Step(n/3); used && !usedMore {
					t.Errorf("Step(%d): %v allows what %v does not", n/3, less, more)
				}
			}
			steps, peak := small.Used()
			wantUsed(t, great, steps, peak)
		}
	}
}

// P4.4: what was refused once is refused on, if no less is held.
func TestRefusedOn(t *testing.T) {
	for _, limit := range rights() {
		m := newMeter(t, limit, limit)
		stepRefused, holdRefused := false, false
		for _, n := range moves {
			used := m.Step(n)
			if used && stepRefused {
				t.Errorf("Step(%d) within %v, refused once", n, limit)
			}
			stepRefused = stepRefused || !used
			held := m.Hold(max(n, 0))
			if held && holdRefused {
				t.Errorf("Hold(%d) within %v, refused once", n, limit)
			}
			holdRefused = holdRefused || !held
		}
		if past := limit < top; stepRefused != past || holdRefused != past {
			t.Errorf("%v: refused at 2^62: %v, %v", limit, stepRefused, holdRefused)
		}
	}
}
