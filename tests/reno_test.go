package tests

import (
	"math"
	"math/big"
	"slices"
	"sort"
	"sync"
	"testing"

	"loop.example/g00147/impl"
)

// ccOf has something in each field that the first controller lets be.
func ccOf(window int64, thresh int64, flight int64, acked int64, slow bool) impl.Cc {
	return impl.Cc{
		Kind: impl.CcReno, Window: window, Thresh: thresh, Flight: flight, Acked: acked,
		Last: 40000, Origin: 28000, Start: 123456789, Friend: 31000, Slow: slow,
	}
}

func newCc(t *testing.T, kind int64) impl.Cc {
	t.Helper()
	c, ok := impl.NewCc(kind)
	if !ok {
		t.Fatalf("NewCc(%d) is refused", kind)
	}
	return c
}

// A ccField is a number of a Cc, and its bounds by the words of the chapter.
type ccField struct {
	name      string
	of        func(*impl.Cc) *int64
	low, high int64
}

func ccFields() []ccField {
	return []ccField{
		{"Kind", func(c *impl.Cc) *int64 { return &c.Kind }, 1, 3},
		{"Window", func(c *impl.Cc) *int64 { return &c.Window }, 3000, 1000000000},
		{"Thresh", func(c *impl.Cc) *int64 { return &c.Thresh }, 3000, 1000000000},
		{"Flight", func(c *impl.Cc) *int64 { return &c.Flight }, 0, 1000000000},
		{"Acked", func(c *impl.Cc) *int64 { return &c.Acked }, 0, 1000000000},
		{"Last", func(c *impl.Cc) *int64 { return &c.Last }, 0, 1000000000},
		{"Origin", func(c *impl.Cc) *int64 { return &c.Origin }, 0, 1000000000},
		{"Start", func(c *impl.Cc) *int64 { return &c.Start }, 0, 1000000000000000},
		{"Friend", func(c *impl.Cc) *int64 { return &c.Friend }, 0, 1000000000},
	}
}

func (f ccField) holds(x int64) bool { return x >= f.low && x <= f.high }

func (f ccField) with(c impl.Cc, x int64) impl.Cc {
	*f.of(&c) = x
	return c
}

func wantCcOk(c impl.Cc) bool {
	for _, f := range ccFields() {
		if !f.holds(*f.of(&c)) {
			return false
		}
	}
	return true
}

func wantNewCc(kind int64) (impl.Cc, bool) {
	if kind != 1 && kind != 2 && kind != 3 {
		return impl.Cc{}, false
	}
	return impl.Cc{Kind: kind, Window: 15000, Thresh: 1000000000, Slow: true}, true
}

func sumByWords(a int64, b int64) *big.Int { return new(big.Int).Add(big.NewInt(a), big.NewInt(b)) }

func wantSent(c impl.Cc, n int64) (impl.Cc, bool) {
	if !wantCcOk(c) || !isSizeByWords(n) {
		return impl.Cc{}, false
	}
	flight := sumByWords(c.Flight, n)
	if flight.Cmp(big.NewInt(c.Window)) > 0 {
		return impl.Cc{}, false
	}
	c.Flight = flight.Int64()
	return c, true
}

// stepsCost is what must come through for so many steps, the first one at that
// window: each costs the Window from before it, the next one 1500 more, but none
// of them more than 1000000000.
func stepsCost(window int64, steps int64) *big.Int {
	below := min(steps, (1000000000-window+1499)/1500)
	pairs := new(big.Int).Mul(big.NewInt(below), big.NewInt(below-1))
	pairs.Rsh(pairs, 1)
	cost := new(big.Int).Mul(big.NewInt(below), big.NewInt(window))
	cost.Add(cost, pairs.Mul(pairs, big.NewInt(1500)))
	return cost.Add(cost, new(big.Int).Mul(big.NewInt(steps-below), big.NewInt(1000000000)))
}

// stepsOf looks for the last step that is paid for: it takes none of them.
func stepsOf(window int64, through *big.Int) int64 {
	return int64(sort.Search(1000000, func(steps int) bool {
		return stepsCost(window, int64(steps)+1).Cmp(through) > 0
	}))
}

func atMostBig(x *big.Int, bound int64) int64 {
	if x.Cmp(big.NewInt(bound)) > 0 {
		return bound
	}
	return x.Int64()
}

func wantRenoAck(c impl.Cc, n int64) impl.Cc {
	if !wantCcOk(c) || n < 1 || n > 1000000000 {
		return impl.Cc{}
	}
	c.Flight = greaterBig(new(big.Int).Sub(big.NewInt(c.Flight), big.NewInt(n)), new(big.Int)).Int64()
	if c.Window < c.Thresh {
		c.Window = atMostBig(sumByWords(c.Window, n), c.Thresh)
		c.Slow = c.Slow && c.Window < c.Thresh
		return c
	}
	through := sumByWords(c.Acked, n)
	steps := stepsOf(c.Window, through)
	c.Acked = through.Sub(through, stepsCost(c.Window, steps)).Int64()
	c.Window = atMostBig(sumByWords(c.Window, 1500*steps), 1000000000)
	return c
}

func wantRenoLoss(c impl.Cc) impl.Cc {
	if !wantCcOk(c) {
		return impl.Cc{}
	}
	half := new(big.Int).Div(big.NewInt(c.Window), big.NewInt(2))
	c.Thresh = greaterBig(half, big.NewInt(3000)).Int64()
	c.Window = c.Thresh
	c.Acked = 0
	c.Slow = false
	return c
}

func wantRenoTimeout(c impl.Cc) impl.Cc {
	if !wantCcOk(c) {
		return impl.Cc{}
	}
	return impl.Cc{
		Kind: c.Kind, Window: 3000, Thresh: wantRenoLoss(c).Thresh,
		Last: c.Last, Origin: c.Origin, Start: c.Start, Friend: c.Friend,
	}
}

func checkCcOk(t *testing.T, c impl.Cc, want bool) {
	t.Helper()
	if got := impl.CcOk(c); got != want {
		t.Fatalf("CcOk(%+v) = %v, not %v", c, got, want)
	}
}

func checkSent(t *testing.T, c impl.Cc, n int64, want impl.Cc, wantOk bool) impl.Cc {
	t.Helper()
	got, ok := impl.Sent(c, n)
	if got != want || ok != wantOk {
		t.Fatalf("Sent(%+v, %d) = %+v, %v, not %+v, %v", c, n, got, ok, want, wantOk)
	}
	return got
}

func checkRenoAck(t *testing.T, c impl.Cc, n int64, want impl.Cc) impl.Cc {
	t.Helper()
	got := impl.RenoAck(c, n)
	if got != want {
		t.Fatalf("RenoAck(%+v, %d) = %+v, not %+v", c, n, got, want)
	}
	return got
}

func checkRenoLoss(t *testing.T, c impl.Cc, want impl.Cc) impl.Cc {
	t.Helper()
	got := impl.RenoLoss(c)
	if got != want {
		t.Fatalf("RenoLoss(%+v) = %+v, not %+v", c, got, want)
	}
	return got
}

func checkRenoTimeout(t *testing.T, c impl.Cc, want impl.Cc) impl.Cc {
	t.Helper()
	got := impl.RenoTimeout(c)
	if got != want {
		t.Fatalf("RenoTimeout(%+v) = %+v, not %+v", c, got, want)
	}
	return got
}

// checkCc holds all functions against the plain account.
func checkCc(t *testing.T, c impl.Cc, n int64) {
	t.Helper()
	checkCcOk(t, c, wantCcOk(c))
	want, wantOk := wantSent(c, n)
	checkSent(t, c, n, want, wantOk)
	checkRenoAck(t, c, n, wantRenoAck(c, n))
	checkRenoLoss(t, c, wantRenoLoss(c))
	checkRenoTimeout(t, c, wantRenoTimeout(c))
}

// checkNoCc wants the fixed answers for a Cc that is not right.
func checkNoCc(t *testing.T, c impl.Cc) {
	t.Helper()
	checkCcOk(t, c, false)
	for _, n := range []int64{-1, 0, 1, 700, 1500, 1501, impl.MaxWindow, impl.MaxWindow + 1} {
		checkSent(t, c, n, impl.Cc{}, false)
		checkRenoAck(t, c, n, impl.Cc{})
	}
	checkRenoLoss(t, c, impl.Cc{})
	checkRenoTimeout(t, c, impl.Cc{})
}

// checkRightCc wants a Cc to be right, and all that is made of it.
func checkRightCc(t *testing.T, c impl.Cc) {
	t.Helper()
	checkCcOk(t, c, true)
	for _, n := range []int64{-1, 0, 1, 700, 1500, 1501, c.Flight, c.Window, impl.MaxWindow, impl.MaxWindow + 1} {
		checkCc(t, c, n)
	}
	checkSending(t, c, 1)
	checkAcking(t, c, 3000)
	checkLosing(t, c)
	checkTimingOut(t, c)
}

func checkIsRightCc(t *testing.T, c impl.Cc, is bool) {
	t.Helper()
	if is {
		checkRightCc(t, c)
	} else {
		checkNoCc(t, c)
	}
}

// checkWindowBounds is the promise's first half, for what was made of a right Cc; and
// that it is still of the same kind, with what is not the first controller's.
func checkWindowBounds(t *testing.T, from impl.Cc, c impl.Cc) {
	t.Helper()
	if c.Window < 3000 || c.Window > 1000000000 || c.Thresh < 3000 || c.Thresh > 1000000000 {
		t.Fatalf("of %+v came %+v", from, c)
	}
	checkCcOk(t, c, true)
	if c.Kind != from.Kind || c.Last != from.Last || c.Origin != from.Origin || c.Start != from.Start || c.Friend != from.Friend {
		t.Fatalf("of %+v came %+v", from, c)
	}
}

// checkSending wants what is sent to be in flight, and never more than Window.
func checkSending(t *testing.T, c impl.Cc, n int64) (impl.Cc, bool) {
	t.Helper()
	want, wantOk := wantSent(c, n)
	next := checkSent(t, c, n, want, wantOk)
	if !wantOk {
		if c.Flight <= c.Window-n {
			t.Fatalf("Sent(%+v, %d) is refused", c, n)
		}
		return c, false
	}
	if next.Flight-c.Flight != n || next.Flight > next.Window || next.Window != c.Window {
		t.Fatalf("Sent(%+v, %d) = %+v", c, n, next)
	}
	checkWindowBounds(t, c, next)
	return next, true
}

// checkAcking wants a window to rise by what came through up to Thresh, and
// behind it by 1500 for each Window that came through.
func checkAcking(t *testing.T, c impl.Cc, n int64) impl.Cc {
	t.Helper()
	next := checkRenoAck(t, c, n, wantRenoAck(c, n))
	checkWindowBounds(t, c, next)
	if next.Window < c.Window || next.Flight != max(c.Flight-n, 0) || next.Thresh != c.Thresh {
		t.Fatalf("RenoAck(%+v, %d) = %+v", c, n, next)
	}
	if c.Window < c.Thresh {
		if next.Window != min(c.Window+n, c.Thresh) || next.Acked != c.Acked {
			t.Fatalf("RenoAck(%+v, %d) = %+v", c, n, next)
		}
		return next
	}
	checkStepsPaid(t, c, n, next)
	return next
}

// checkStepsPaid pays the steps one by one: nothing that came through is lost
// or counted twice, and no step is taken from a Window that is out of its bounds.
func checkStepsPaid(t *testing.T, c impl.Cc, n int64, next impl.Cc) {
	t.Helper()
	if next.Slow != c.Slow {
		t.Fatalf("RenoAck(%+v, %d) = %+v", c, n, next)
	}
	left := c.Acked + n
	window := c.Window
	for left >= window {
		left -= window
		window += 1500
		if window > 1000000000 {
			window = 1000000000
		}
	}
	if window != next.Window || left != next.Acked || next.Acked >= next.Window {
		t.Fatalf("RenoAck(%+v, %d) = %+v", c, n, next)
	}
}

// checkLosing is the promise's second half: a loss halves a window.
func checkLosing(t *testing.T, c impl.Cc) impl.Cc {
	t.Helper()
	next := checkRenoLoss(t, c, wantRenoLoss(c))
	checkWindowBounds(t, c, next)
	half := next.Window
	if c.Window < 6000 {
		half = c.Window / 2
		if next.Window != 3000 {
			t.Fatalf("RenoLoss(%+v) = %+v", c, next)
		}
	}
	if 2*half != c.Window && 2*half+1 != c.Window || next.Thresh != next.Window {
		t.Fatalf("RenoLoss(%+v) = %+v is not half", c, next)
	}
	if next.Acked != 0 || next.Slow || next.Flight != c.Flight {
		t.Fatalf("RenoLoss(%+v) = %+v", c, next)
	}
	return next
}

func checkTimingOut(t *testing.T, c impl.Cc) impl.Cc {
	t.Helper()
	next := checkRenoTimeout(t, c, wantRenoTimeout(c))
	checkWindowBounds(t, c, next)
	if next.Window != 3000 || next.Thresh != max(c.Window/2, 3000) || next.Flight != 0 || next.Acked != 0 || next.Slow {
		t.Fatalf("RenoTimeout(%+v) = %+v", c, next)
	}
	return next
}

func TestCcLimits(t *testing.T) {
	if impl.MinWindow != 3000 || impl.CcReno != 1 || impl.CcCubic != 2 || impl.CcProbe != 3 {
		t.Fatal(impl.MinWindow, impl.CcReno, impl.CcCubic, impl.CcProbe)
	}
}

func TestNewCc(t *testing.T) {
	for _, kind := range append(edges(), -1, 0, 1, 2, 3, 4, 5) {
		want, wantOk := wantNewCc(kind)
		c, ok := impl.NewCc(kind)
		if c != want || ok != wantOk {
			t.Fatalf("NewCc(%d) = %+v, %v", kind, c, ok)
		}
		checkIsRightCc(t, c, wantOk)
	}
	for _, kind := range []int64{0, 4} {
		if c, ok := impl.NewCc(kind); ok || c != (impl.Cc{}) {
			t.Fatalf("NewCc(%d) = %+v, %v", kind, c, ok)
		}
	}
	for kind := int64(1); kind <= 3; kind++ {
		c := newCc(t, kind)
		if c.Kind != kind || c.Window != 15000 || c.Thresh != 1000000000 || !c.Slow {
			t.Fatalf("NewCc(%d) = %+v", kind, c)
		}
	}
}

// rightCcs are of each kind, in and behind the first rise, Slow or not.
func rightCcs() []impl.Cc {
	var list []impl.Cc
	for kind := int64(1); kind <= 3; kind++ {
		for _, slow := range []bool{true, false} {
			for _, thresh := range []int64{3000, 20000, 1000000000} {
				c := ccOf(20000, thresh, 9000, 7000, slow)
				c.Kind = kind
				list = append(list, c)
			}
		}
	}
	return list
}

// Each field by itself, at its bounds, just within them and just without.
func TestCcFields(t *testing.T) {
	for _, f := range ccFields() {
		t.Run(f.name, func(t *testing.T) {
			for _, c := range rightCcs() {
				for _, x := range []int64{f.low, f.low + 1, f.high - 1, f.high} {
					checkRightCc(t, f.with(c, x))
				}
				for _, x := range []int64{f.low - 1, f.high + 1, math.MinInt64, math.MaxInt64} {
					checkNoCc(t, f.with(c, x))
				}
				for _, x := range append(edges(), -1, 0, 1, 2, 3, 4, 2999, 3000, 3001) {
					checkIsRightCc(t, f.with(c, x), f.holds(x))
				}
			}
		})
	}
}

func TestCcsByHand(t *testing.T) {
	checkCcOk(t, impl.Cc{}, false)
	least := impl.Cc{Kind: 1, Window: 3000, Thresh: 3000}
	checkCcOk(t, least, true)
	most := impl.Cc{
		Kind: 3, Window: 1000000000, Thresh: 1000000000, Flight: 1000000000, Acked: 1000000000,
		Last: 1000000000, Origin: 1000000000, Start: 1000000000000000, Friend: 1000000000, Slow: true,
	}
	checkCcOk(t, most, true)
	for _, f := range ccFields() {
		checkNoCc(t, f.with(least, f.low-1))
		checkNoCc(t, f.with(most, f.high+1))
	}
	checkNoCc(t, impl.Cc{})
	checkNoCc(t, impl.Cc{Slow: true})
	// The bounds of one field do not hang on another one.
	checkRightCc(t, impl.Cc{Kind: 2, Window: 3000, Thresh: 1000000000, Flight: 1000000000, Acked: 1000000000})
	checkRightCc(t, impl.Cc{Kind: 1, Window: 1000000000, Thresh: 3000, Slow: true})
}

func TestSentByHand(t *testing.T) {
	c := newCc(t, impl.CcReno)
	for sent := int64(1500); sent <= 15000; sent += 1500 {
		want := c
		want.Flight = sent
		c = checkSent(t, c, 1500, want, true)
	}
	checkSent(t, c, 1, impl.Cc{}, false)
	checkSent(t, c, 1500, impl.Cc{}, false)
	// What came through makes room for itself, and for as much again.
	c = impl.RenoAck(c, 1500)
	for range 2 {
		c, _ = impl.Sent(c, 1500)
	}
	if c.Flight != 16500 || c.Window != 16500 {
		t.Fatal(c)
	}
	checkSent(t, c, 1, impl.Cc{}, false)
}

// Flight is then just Window, a byte less and a byte more, for each size.
func TestSentToTheWindow(t *testing.T) {
	for _, window := range []int64{3000, 3001, 15000, 999999999, 1000000000} {
		for _, n := range []int64{1, 2, 700, 1499, 1500} {
			for _, slow := range []bool{true, false} {
				c := ccOf(window, 50000, window-n, 77, slow)
				checkSent(t, c, n, ccOf(window, 50000, window, 77, slow), true)
				c.Flight--
				checkSent(t, c, n, ccOf(window, 50000, window-1, 77, slow), true)
				c.Flight += 2
				checkSent(t, c, n, impl.Cc{}, false)
				c.Flight = window
				checkSent(t, c, n, impl.Cc{}, false)
				checkSent(t, ccOf(window, 50000, 0, 77, slow), n, ccOf(window, 50000, n, 77, slow), true)
			}
		}
	}
}

// More may be in flight than a Window that has fallen since.
func TestSentAboveTheWindow(t *testing.T) {
	for _, flight := range []int64{20001, 20000, 50000, 1000000000} {
		for _, n := range []int64{1, 1500} {
			checkSent(t, ccOf(20000, 30000, flight, 0, false), n, impl.Cc{}, false)
		}
	}
	c := ccOf(20000, 30000, 20000, 0, true)
	c = impl.RenoLoss(c)
	checkSent(t, c, 1, impl.Cc{}, false)
	c = impl.RenoAck(c, 9000)
	checkSent(t, c, 1, impl.Cc{}, false)
	// 11000 are still in flight, of a Window of 11500 by now.
	c = impl.RenoAck(impl.RenoAck(c, 1), 999)
	checkSent(t, c, 1500, ccOf(11500, 10000, 11500, 0, false), true)
	checkSent(t, c, 1499, ccOf(11500, 10000, 11499, 0, false), true)
}

func TestSentRefuses(t *testing.T) {
	for _, c := range append(rightCcs(), newCc(t, 1), newCc(t, 2), newCc(t, 3)) {
		for _, n := range append(noSegments(), 1502, 3000, impl.MaxWindow, math.MinInt64+1, math.MaxInt64-1) {
			checkSent(t, c, n, impl.Cc{}, false)
		}
		for _, n := range []int64{1, 1500} {
			if next, ok := checkSending(t, c, n); !ok || next.Flight != c.Flight+n {
				t.Fatal(c, n)
			}
		}
	}
}

func TestRenoAckByHand(t *testing.T) {
	c := newCc(t, impl.CcReno)
	c.Flight = 15000
	c = impl.RenoAck(c, 1500)
	c = impl.RenoAck(c, 3000)
	if c != (impl.Cc{Kind: 1, Window: 19500, Thresh: 1000000000, Flight: 10500, Slow: true}) {
		t.Fatal(c)
	}
	c = impl.RenoLoss(c)
	if c != (impl.Cc{Kind: 1, Window: 9750, Thresh: 9750, Flight: 10500}) {
		t.Fatal(c)
	}
	c = impl.RenoAck(c, 9749)
	if c != (impl.Cc{Kind: 1, Window: 9750, Thresh: 9750, Flight: 751, Acked: 9749}) {
		t.Fatal(c)
	}
	c = impl.RenoAck(c, 11)
	if c != (impl.Cc{Kind: 1, Window: 11250, Thresh: 9750, Flight: 740, Acked: 10}) {
		t.Fatal(c)
	}
	c = impl.RenoTimeout(c)
	if c != (impl.Cc{Kind: 1, Window: 3000, Thresh: 5625}) {
		t.Fatal(c)
	}
	// It rises again, if not for the first time, and no further than Thresh.
	c = impl.RenoAck(c, 2000)
	if c != (impl.Cc{Kind: 1, Window: 5000, Thresh: 5625}) {
		t.Fatal(c)
	}
	c = impl.RenoAck(c, 2000)
	if c != (impl.Cc{Kind: 1, Window: 5625, Thresh: 5625}) {
		t.Fatal(c)
	}
	c = impl.RenoAck(c, 2000)
	if c != (impl.Cc{Kind: 1, Window: 5625, Thresh: 5625, Acked: 2000}) {
		t.Fatal(c)
	}
}

// n is less than Flight, just it, and more, in the first rise and behind it.
func TestFlightOfAck(t *testing.T) {
	for _, thresh := range []int64{3000, 1000000000} {
		for _, flight := range []int64{0, 1, 2, 1500, 20000, 999999999, 1000000000} {
			c := ccOf(20000, thresh, flight, 0, true)
			for _, n := range []int64{1, 2, flight - 1, flight, flight + 1, 1000000000} {
				if n < 1 || n > 1000000000 {
					continue
				}
				next := checkAcking(t, c, n)
				if n >= flight && next.Flight != 0 || n < flight && next.Flight+n != flight {
					t.Fatal(c, n, next)
				}
			}
		}
	}
	if c := impl.RenoAck(ccOf(20000, 3000, 1500, 0, true), 1499); c.Flight != 1 {
		t.Fatal(c)
	}
	if c := impl.RenoAck(ccOf(20000, 3000, 1500, 0, true), 1500); c.Flight != 0 {
		t.Fatal(c)
	}
	if c := impl.RenoAck(ccOf(20000, 3000, 1500, 0, true), 1501); c.Flight != 0 {
		t.Fatal(c)
	}
}

func TestRiseToThresh(t *testing.T) {
	for _, slow := range []bool{true, false} {
		c := ccOf(15000, 20000, 6000, 4321, slow)
		checkRenoAck(t, c, 1, ccOf(15001, 20000, 5999, 4321, slow))
		checkRenoAck(t, c, 4999, ccOf(19999, 20000, 1001, 4321, slow))
		checkRenoAck(t, c, 5000, ccOf(20000, 20000, 1000, 4321, false))
		checkRenoAck(t, c, 5001, ccOf(20000, 20000, 999, 4321, false))
		checkRenoAck(t, c, 1000000000, ccOf(20000, 20000, 0, 4321, false))
	}
}

// Window a byte below Thresh, just it and above it: Slow and Acked tell which.
func TestAckAroundThresh(t *testing.T) {
	for _, slow := range []bool{true, false} {
		checkRenoAck(t, ccOf(19999, 20000, 0, 50, slow), 1, ccOf(20000, 20000, 0, 50, false))
		checkRenoAck(t, ccOf(19999, 20000, 0, 50, slow), 1500, ccOf(20000, 20000, 0, 50, false))
		checkRenoAck(t, ccOf(20000, 20000, 0, 50, slow), 1500, ccOf(20000, 20000, 0, 1550, slow))
		checkRenoAck(t, ccOf(20001, 20000, 0, 50, slow), 1500, ccOf(20001, 20000, 0, 1550, slow))
		checkRenoAck(t, ccOf(20000, 20000, 0, 50, slow), 19950, ccOf(21500, 20000, 0, 0, slow))
	}
}

// Thresh at both its bounds, and a Window beside each.
func TestThreshAtBounds(t *testing.T) {
	for _, slow := range []bool{true, false} {
		checkRenoAck(t, ccOf(3000, 3000, 0, 0, slow), 1, ccOf(3000, 3000, 0, 1, slow))
		checkRenoAck(t, ccOf(3000, 3001, 0, 0, slow), 1, ccOf(3001, 3001, 0, 0, false))
		checkRenoAck(t, ccOf(3000, 3002, 0, 0, slow), 1, ccOf(3001, 3002, 0, 0, slow))
		checkRenoAck(t, ccOf(999999999, 1000000000, 0, 8, slow), 1, ccOf(1000000000, 1000000000, 0, 8, false))
		checkRenoAck(t, ccOf(999999998, 1000000000, 0, 8, slow), 1, ccOf(999999999, 1000000000, 0, 8, slow))
		checkRenoAck(t, ccOf(3000, 1000000000, 0, 8, slow), 999997000, ccOf(1000000000, 1000000000, 0, 8, false))
		checkRenoAck(t, ccOf(3000, 1000000000, 0, 8, slow), 999996999, ccOf(999999999, 1000000000, 0, 8, slow))
		checkRenoAck(t, ccOf(3000, 1000000000, 0, 8, slow), 1000000000, ccOf(1000000000, 1000000000, 0, 8, false))
		checkRenoAck(t, ccOf(1000000000, 1000000000, 0, 8, slow), 1, ccOf(1000000000, 1000000000, 0, 9, slow))
	}
}

func TestStepsBehindThresh(t *testing.T) {
	for _, c := range []struct{ window, acked, n, wantWindow, wantAcked int64 }{
		{10000, 0, 1, 10000, 1},
		{10000, 0, 9999, 10000, 9999},
		{10000, 0, 10000, 11500, 0},
		{10000, 0, 10001, 11500, 1},
		{10000, 9998, 1, 10000, 9999},
		{10000, 9999, 1, 11500, 0},
		{10000, 9999, 2, 11500, 1},
		// Twice the Window is not enough for two steps: the second costs more.
		{10000, 0, 20000, 11500, 10000},
		{10000, 0, 21499, 11500, 11499},
		{10000, 0, 21500, 13000, 0},
		{10000, 0, 21501, 13000, 1},
		{10000, 10000, 11500, 13000, 0},
		{10000, 0, 34499, 13000, 12999},
		{10000, 0, 34500, 14500, 0},
		// What was there alone is enough for some of them.
		{10000, 21499, 1, 13000, 0},
		{10000, 50000, 1, 16000, 1001},
		{3000, 0, 2999, 3000, 2999},
		{3000, 0, 3000, 4500, 0},
		{3000, 0, 6000, 4500, 3000},
		{3000, 0, 7500, 6000, 0},
		{3000, 3000, 3000, 4500, 3000},
	} {
		for _, thresh := range []int64{3000, c.window} {
			for _, slow := range []bool{true, false} {
				from := ccOf(c.window, thresh, 5, c.acked, slow)
				checkRenoAck(t, from, c.n, ccOf(c.wantWindow, thresh, max(5-c.n, 0), c.wantAcked, slow))
				checkAcking(t, from, c.n)
			}
		}
	}
}

// Steps at the upper bound of a Window: from just it, from one step below, from
// a byte beside that, and from between.
func TestStepsAtMaxWindow(t *testing.T) {
	const most = 1000000000
	for _, c := range []struct{ window, acked, n, wantWindow, wantAcked int64 }{
		{most, 0, 1, most, 1},
		{most, 0, most - 1, most, most - 1},
		{most, 0, most, most, 0},
		{most, 1, most, most, 1},
		{most, most - 1, 1, most, 0},
		{most, most, 1, most, 1},
		{most, most, most - 1, most, most - 1},
		{most - 1, 0, most - 1, most, 0},
		{most - 1, 0, most - 2, most - 1, most - 2},
		{most - 1499, most - 1500, 1, most, 0},
		{most - 1499, most - 1500, 2, most, 1},
		{most - 1500, most - 1501, 1, most, 0},
		{most - 1500, most - 1501, 2, most, 1},
		{most - 1501, most - 1502, 1, most - 1, 0},
		{most - 1501, most - 1502, 2, most - 1, 1},
		{most - 1500, most - 1500, most, most, 0},
		{most - 3000, most - 3000, most - 1500, most, 0},
		{most - 3000, most - 3000, most - 1501, most - 1500, most - 1501},
		{most - 3001, most - 3001, most - 1501, most - 1, 0},
	} {
		for _, slow := range []bool{true, false} {
			from := ccOf(c.window, 3000, 5, c.acked, slow)
			checkRenoAck(t, from, c.n, ccOf(c.wantWindow, 3000, max(5-c.n, 0), c.wantAcked, slow))
			checkAcking(t, from, c.n)
		}
	}
}

// Acked and n together are twice MaxWindow: none of it is cut off, and each step
// costs a Window that is within its bounds.
func TestGreatestAcks(t *testing.T) {
	const most = 1000000000
	for _, c := range []struct{ window, wantWindow, wantAcked int64 }{
		// 1631 steps from 3000 on cost 3000 times 1631, and 1500 times 1329265.
		{3000, 2449500, 1209500},
		{most, most, 0},
		{most - 1, most, 1},
		// With a Window above its bound 750 is where a second step would begin.
		{most - 749, most, 749},
		{most - 750, most, 750},
		{most - 751, most, 751},
		{most - 1000, most, 1000},
		{most - 1499, most, 1499},
		{most - 1500, most, 1500},
		{most - 1501, most, 1502},
		{most - 3000, most, 4500},
		{most / 2, most/2 + 4500, most/2 - 4500},
	} {
		from := ccOf(c.window, 3000, most, most, false)
		checkRenoAck(t, from, most, ccOf(c.wantWindow, 3000, 0, c.wantAcked, false))
		checkAcking(t, from, most)
	}
	// An Acked of a whole Window is right when it is handed in, and a step with the next byte.
	checkRenoAck(t, ccOf(most, 3000, 0, most, false), 1, ccOf(most, 3000, 0, 1, false))
}

// Each Window of the last two steps, with what is a byte short of the second
// step, just enough for it, and the most there is.
func TestEachWindowBelowMaxWindow(t *testing.T) {
	const most = 1000000000
	for window := int64(most - 3100); window <= most; window++ {
		second := min(window+1500, most)
		for _, acked := range []int64{window - 1, window, most} {
			c := ccOf(window, 3000, 5, acked, false)
			for _, through := range []int64{window + second - 1, window + second, window + second + 1, acked + most} {
				if n := through - acked; n >= 1 && n <= most {
					checkAcking(t, c, n)
				}
			}
		}
		short := ccOf(window, 3000, 5, window, false)
		checkRenoAck(t, short, second-1, ccOf(second, 3000, 0, second-1, false))
		checkRenoAck(t, short, second, ccOf(min(second+1500, most), 3000, 0, 0, false))
	}
}

func TestRenoAckRefuses(t *testing.T) {
	for _, c := range append(rightCcs(), newCc(t, 1), newCc(t, 2), newCc(t, 3)) {
		for _, n := range []int64{0, -1, -2, 1000000001, 1000000002, math.MinInt64, math.MinInt64 + 1, math.MaxInt64, math.MaxInt64 - 1} {
			checkRenoAck(t, c, n, impl.Cc{})
		}
		for _, n := range []int64{1, 1000000000} {
			if next := checkAcking(t, c, n); next == (impl.Cc{}) {
				t.Fatal(c, n)
			}
		}
	}
}

func TestLossByHand(t *testing.T) {
	for _, c := range []struct{ window, want int64 }{
		{3000, 3000}, {3001, 3000}, {4500, 3000}, {5998, 3000}, {5999, 3000},
		{6000, 3000}, {6001, 3000}, {6002, 3001}, {6003, 3001}, {6004, 3002},
		{15000, 7500}, {15001, 7500}, {16500, 8250}, {9999, 4999},
		{999999999, 499999999}, {1000000000, 500000000},
	} {
		for _, thresh := range []int64{3000, c.window, 1000000000} {
			for _, slow := range []bool{true, false} {
				from := ccOf(c.window, thresh, 12345, 2345, slow)
				checkRenoLoss(t, from, ccOf(c.want, c.want, 12345, 0, false))
				checkRenoTimeout(t, from, ccOf(3000, c.want, 0, 0, false))
				checkLosing(t, from)
				checkTimingOut(t, from)
			}
		}
	}
}

// Each loss halves what the one ahead left, down to MinWindow and no further.
func TestLossUponLoss(t *testing.T) {
	c := ccOf(1000000000, 1000000000, 777, 888, true)
	for _, want := range []int64{
		500000000, 250000000, 125000000, 62500000, 31250000, 15625000, 7812500, 3906250, 1953125,
		976562, 488281, 244140, 122070, 61035, 30517, 15258, 7629, 3814, 3000, 3000, 3000,
	} {
		c = checkRenoLoss(t, c, ccOf(want, want, 777, 0, false))
	}
	c = checkRenoTimeout(t, c, ccOf(3000, 3000, 0, 0, false))
	checkRenoTimeout(t, c, c)
}

// A wait that expires leaves Window below Thresh: it rises there again, but
// that is not its first rise any more.
func TestRiseBehindTimeout(t *testing.T) {
	c := ccOf(40000, 30000, 40000, 39000, true)
	c = checkRenoTimeout(t, c, ccOf(3000, 20000, 0, 0, false))
	c = checkRenoAck(t, c, 16999, ccOf(19999, 20000, 0, 0, false))
	c = checkRenoAck(t, c, 16999, ccOf(20000, 20000, 0, 0, false))
	checkRenoAck(t, c, 16999, ccOf(20000, 20000, 0, 16999, false))
}

func TestEachWindowAroundMinWindow(t *testing.T) {
	for window := int64(3000); window <= 12100; window++ {
		c := ccOf(window, 7000, 4000, 5000, true)
		checkLosing(t, c)
		checkTimingOut(t, c)
		for _, n := range []int64{1, 1500, 7000 - window, 7001 - window, window - 5000, window - 4999, window} {
			if n >= 1 {
				checkAcking(t, c, n)
			}
		}
	}
}

// Each n of the first rise comes to the Window as it is, byte by byte or at once.
func TestFirstRise(t *testing.T) {
	for kind := int64(1); kind <= 3; kind++ {
		c := newCc(t, kind)
		window := int64(15000)
		for n := int64(1); n <= 3000; n++ {
			c = checkAcking(t, c, n)
			window += n
			if c.Window != window || !c.Slow || c.Acked != 0 {
				t.Fatal(n, c)
			}
		}
		for window < 1000000000 {
			if !c.Slow {
				t.Fatal(window, c)
			}
			// All that is in flight comes through: the Window doubles.
			c = checkAcking(t, c, window)
			window = min(2*window, 1000000000)
			if c.Window != window {
				t.Fatal(window, c)
			}
		}
		if c.Slow {
			t.Fatal(c)
		}
	}
}

// Behind Thresh a Window of bytes must come through for each 1500 more,
// whatever the pieces are that it comes in.
func TestSlowRise(t *testing.T) {
	for _, n := range []int64{1, 7, 700, 1499, 1500, 2999, 3000} {
		c := ccOf(3000, 3000, 0, 0, false)
		window, through := int64(3000), int64(0)
		for range 2000 {
			c = checkAcking(t, c, n)
			through += n
			if through >= window {
				through -= window
				window += 1500
			}
			if c.Window != window || c.Acked != through {
				t.Fatal(n, window, through, c)
			}
		}
	}
}

// In two pieces as much comes through as at once, near the upper bound too.
func TestAcksInPieces(t *testing.T) {
	state := uint64(101)
	for range 3000 {
		c := ccOf(anyWindow(&state, 3000), 3000, anyWindow(&state, 0), anyWindow(&state, 0), false)
		whole := anyWindow(&state, 2)
		a := 1 + mixed(&state)%(whole-1)
		b := whole - a
		if two, one := checkAcking(t, checkAcking(t, c, a), b), checkAcking(t, c, a+b); two != one {
			t.Fatal(c, a, b, two, one)
		}
	}
}

// A controlRow is a Cc, and what happened to it.
type controlRow struct {
	t     *testing.T
	state uint64
	cc    impl.Cc
	met   map[string]int
}

// fill sends until there is no room: Flight is then just Window, if all fits.
func (r *controlRow) fill() {
	for range 40 {
		n := 1 + mixed(&r.state)%1500
		if mixed(&r.state)%3 > 0 {
			n = min(max(r.cc.Window-r.cc.Flight, 1), 1500)
		}
		next, ok := checkSending(r.t, r.cc, n)
		if !ok {
			r.met["full"]++
			break
		}
		r.cc = next
		r.met["sent"]++
	}
}

func (r *controlRow) ack() {
	n := 1 + mixed(&r.state)%max(r.cc.Flight, 1)
	if mixed(&r.state)%16 == 0 {
		n = 1 + mixed(&r.state)%1000000000
	}
	before := r.cc
	r.cc = checkAcking(r.t, r.cc, n)
	switch {
	case before.Slow && !r.cc.Slow:
		r.met["first rise ended"]++
	case before.Window < before.Thresh && before.Slow:
		r.met["first rise"]++
	case before.Window < before.Thresh:
		r.met["rise"]++
	case r.cc.Window > before.Window:
		r.met["step"]++
	default:
		r.met["no step"]++
	}
}

func (r *controlRow) move() {
	switch mixed(&r.state) % 24 {
	case 0:
		r.cc = checkLosing(r.t, r.cc)
		r.met["loss"]++
	case 1:
		r.cc = checkTimingOut(r.t, r.cc)
		r.met["timeout"]++
	case 2, 3, 4, 5, 6, 7, 8:
		r.fill()
	default:
		r.ack()
	}
}

func TestRowsOfEachKind(t *testing.T) {
	met := map[string]int{}
	for kind := int64(1); kind <= 3; kind++ {
		for k := range 150 {
			r := controlRow{t: t, state: uint64(1000*kind) + uint64(k), cc: newCc(t, kind), met: met}
			for range 150 {
				r.move()
			}
			if r.cc.Kind != kind || r.cc.Last != 0 || r.cc.Origin != 0 || r.cc.Start != 0 || r.cc.Friend != 0 {
				t.Fatal(r.cc)
			}
		}
	}
	for _, name := range []string{
		"full", "sent", "first rise ended", "first rise", "rise", "step", "no step", "loss", "timeout",
	} {
		if met[name] < 20 {
			t.Fatal("too few of a kind were met:", name, met)
		}
	}
}

// With a way that loses a segment each time so many are in flight, the Window
// goes to and fro between that and its half.
func TestSawtooth(t *testing.T) {
	const bears = 60000
	c := newCc(t, impl.CcReno)
	losses := 0
	for range 4000 {
		for c.Flight+1500 <= c.Window {
			c, _ = checkSending(t, c, 1500)
		}
		if c.Flight > bears {
			c = checkLosing(t, c)
			losses++
		}
		c = checkAcking(t, c, min(c.Flight, 1500))
		if c.Window > bears+3000 || losses > 0 && c.Window < bears/2 {
			t.Fatal(c, losses)
		}
	}
	if losses < 2 {
		t.Fatal(losses)
	}
}

// anyWindow is of any count of bits, and often a bound.
func anyWindow(state *uint64, low int64) int64 {
	switch mixed(state) % 8 {
	case 0:
		return low
	case 1:
		return 1000000000
	case 2:
		return 1000000000 - mixed(state)%3100
	case 3:
		return low + mixed(state)%3100
	}
	return low + mixed(state)%(1000000001-low)
}

// anyCc is right, but for one number at times that is a little out of range.
func anyCc(state *uint64) impl.Cc {
	c := impl.Cc{
		Kind: 1 + mixed(state)%3, Window: anyWindow(state, 3000), Thresh: anyWindow(state, 3000),
		Flight: anyWindow(state, 0), Acked: anyWindow(state, 0), Last: anyWindow(state, 0),
		Origin: anyWindow(state, 0), Start: anyTime(state), Friend: anyWindow(state, 0), Slow: mixed(state)%2 == 0,
	}
	if mixed(state)%3 == 0 {
		c.Thresh = max(c.Window+mixed(state)%5-2, 3000)
	}
	fields := ccFields()
	f := fields[mixed(state)%int64(len(fields))]
	switch mixed(state) % 6 {
	case 0:
		c = f.with(c, f.low-mixed(state)%2)
	case 1:
		c = f.with(c, f.high+mixed(state)%2)
	}
	return c
}

func TestMixedCcs(t *testing.T) {
	state := uint64(102)
	right, wrong := 0, 0
	for range 20000 {
		c := anyCc(&state)
		n := anyWindow(&state, 0) + mixed(&state)%5 - 2
		checkCc(t, c, n)
		checkCc(t, c, mixed(&state)%1504-1)
		if !impl.CcOk(c) {
			wrong++
			checkNoCc(t, c)
			continue
		}
		right++
		checkAcking(t, c, anyWindow(&state, 1))
		checkAcking(t, c, min(max(c.Window-c.Acked+mixed(&state)%5-2, 1), 1000000000))
		checkLosing(t, c)
		checkTimingOut(t, c)
		c.Flight = max(c.Window-mixed(&state)%3000, 0)
		checkSending(t, c, 1+mixed(&state)%1500)
	}
	if right < 5000 || wrong < 1500 {
		t.Fatal("too few of a kind were met:", right, wrong)
	}
}

func TestCcsAtEveryArgument(t *testing.T) {
	for _, f := range ccFields() {
		for _, a := range edges() {
			for _, b := range edges() {
				checkCc(t, f.with(ccOf(20000, 30000, 9000, 7000, true), a), b)
				checkCc(t, f.with(ccOf(20000, 20000, 9000, 7000, false), a), b)
			}
		}
	}
	fields := ccFields()
	for i, f := range fields {
		for _, g := range fields[:i] {
			for _, a := range edges() {
				for _, b := range []int64{math.MinInt64, -1, 0, 1, 3000, 1000000000, math.MaxInt64} {
					checkCc(t, g.with(f.with(ccOf(20000, 20000, 9000, 7000, true), a), b), 1500)
				}
			}
		}
	}
}

// What one call answers hangs on no other call, however many there are at once.
func TestCcsAtOnce(t *testing.T) {
	var workers sync.WaitGroup
	wrong := make([]int, 8)
	for k := range wrong {
		workers.Go(func() {
			state := uint64(110 + k)
			c, _ := impl.NewCc(int64(k%3) + 1)
			want := c
			for range 1000 {
				n := 1 + mixed(&state)%20000
				switch mixed(&state) % 8 {
				case 0:
					c, want = impl.RenoLoss(c), wantRenoLoss(want)
				case 1:
					c, want = impl.RenoTimeout(c), wantRenoTimeout(want)
				default:
					c, want = impl.RenoAck(c, n), wantRenoAck(want, n)
				}
				if c != want {
					wrong[k]++
				}
			}
		})
	}
	workers.Wait()
	if slices.Max(wrong) > 0 {
		t.Fatal(wrong)
	}
}
