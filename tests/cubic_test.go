package tests

import (
	"math"
	"math/big"
	"slices"
	"sort"
	"sync"
	"testing"

	"loop.example/g00147/impl"
)

// curveOf is a Cc that follows a curve, with something in each other field.
func curveOf(window int64, last int64, origin int64, start int64, friend int64) impl.Cc {
	return impl.Cc{
		Kind: impl.CcCubic, Window: window, Thresh: 3000, Flight: 50000, Acked: 4321,
		Last: last, Origin: origin, Start: start, Friend: friend,
	}
}

func isWindowByWords(x int64) bool { return isOf(x, 1000000000) }

// cubeByWords knows no bound.
func cubeByWords(x int64) *big.Int { return new(big.Int).Exp(big.NewInt(x), big.NewInt(3), nil) }

// partByWords is x times a / b, rounded down: Div rounds so for each b above 0.
func partByWords(x *big.Int, a int64, b int64) *big.Int {
	product := new(big.Int).Mul(x, big.NewInt(a))
	return product.Div(product, big.NewInt(b))
}

func boundedBig(x *big.Int, bound int64) int64 { return atMostBig(greaterBig(x, new(big.Int)), bound) }

func wantCubicTime(last int64, origin int64) int64 {
	if !isWindowByWords(last) || !isWindowByWords(origin) {
		return -1
	}
	if origin >= last {
		return 0
	}
	power := partByWords(new(big.Int).Sub(big.NewInt(last), big.NewInt(origin)), 2500000000, 1500)
	return int64(sort.Search(1000000, func(ms int) bool { return cubeByWords(int64(ms)+1).Cmp(power) > 0 }))
}

// freeCurve is the curve that is kept within no bounds.
func freeCurve(last int64, origin int64, ms int64) *big.Int {
	move := partByWords(cubeByWords(ms-wantCubicTime(last, origin)), 6000, 10000000000)
	return move.Add(move, big.NewInt(last))
}

func wantCubicAt(last int64, origin int64, ms int64) int64 {
	if !isWindowByWords(last) || !isWindowByWords(origin) || !isOf(ms, 1000000) {
		return -1
	}
	return boundedBig(freeCurve(last, origin, ms), 1000000000)
}

func isRisingByWords(c impl.Cc) bool { return c.Slow && c.Window < c.Thresh }

// wantBegun is what Start 0 asks for.
func wantBegun(c impl.Cc, now int64) impl.Cc {
	if c.Start > 0 {
		return c
	}
	c.Start = now
	if now == 0 {
		c.Start = 1
	}
	c.Origin, c.Friend = c.Window, c.Window
	if c.Last < c.Window {
		c.Last = c.Window
	}
	return c
}

func wantMilliseconds(c impl.Cc, now int64) int64 {
	ns := new(big.Int).Sub(big.NewInt(now), big.NewInt(c.Start))
	return boundedBig(partByWords(ns, 1, 1000000), 1000000)
}

func wantCubicAck(c impl.Cc, n int64, now int64) impl.Cc {
	if !wantCcOk(c) || n < 1 || n > 1000000000 || !isOf(now, 1e15) {
		return impl.Cc{}
	}
	if isRisingByWords(c) {
		return wantRenoAck(c, n)
	}
	c = wantBegun(c, now)
	c.Flight = greaterBig(new(big.Int).Sub(big.NewInt(c.Flight), big.NewInt(n)), new(big.Int)).Int64()
	more := partByWords(big.NewInt(n), 9*1500, 17*c.Window)
	c.Friend = atMostBig(more.Add(more, big.NewInt(c.Friend)), 1000000000)
	target := wantCubicAt(c.Last, c.Origin, wantMilliseconds(c, now))
	lesser := atMostBig(partByWords(big.NewInt(c.Window), 3, 2), target)
	c.Window = min(slices.Max([]int64{c.Window, c.Friend, lesser}), 1000000000)
	return c
}

func wantCubicLoss(c impl.Cc) impl.Cc {
	if !wantCcOk(c) {
		return impl.Cc{}
	}
	last := c.Window
	if c.Window < c.Last {
		last = partByWords(big.NewInt(c.Window), 17, 20).Int64()
	}
	window := greaterBig(partByWords(big.NewInt(c.Window), 7, 10), big.NewInt(3000)).Int64()
	return impl.Cc{Kind: c.Kind, Window: window, Thresh: window, Flight: c.Flight, Last: last}
}

func checkCubicTime(t *testing.T, last int64, origin int64, want int64) int64 {
	t.Helper()
	got := impl.CubicTime(last, origin)
	if got != want {
		t.Fatalf("CubicTime(%d, %d) = %d, not %d", last, origin, got, want)
	}
	return got
}

func checkCubicAt(t *testing.T, last int64, origin int64, ms int64, want int64) int64 {
	t.Helper()
	got := impl.CubicAt(last, origin, ms)
	if got != want {
		t.Fatalf("CubicAt(%d, %d, %d) = %d, not %d", last, origin, ms, got, want)
	}
	return got
}

func checkCubicAck(t *testing.T, c impl.Cc, n int64, now int64, want impl.Cc) impl.Cc {
	t.Helper()
	got := impl.CubicAck(c, n, now)
	if got != want {
		t.Fatalf("CubicAck(%+v, %d, %d) = %+v, not %+v", c, n, now, got, want)
	}
	return got
}

func checkCubicLoss(t *testing.T, c impl.Cc, want impl.Cc) impl.Cc {
	t.Helper()
	got := impl.CubicLoss(c)
	if got != want {
		t.Fatalf("CubicLoss(%+v) = %+v, not %+v", c, got, want)
	}
	return got
}

// checkCurveAt holds both functions of a curve against the plain account.
func checkCurveAt(t *testing.T, last int64, origin int64, ms int64) {
	t.Helper()
	checkCubicTime(t, last, origin, wantCubicTime(last, origin))
	checkCubicAt(t, last, origin, ms, wantCubicAt(last, origin, ms))
}

// checkNoCurve wants the fixed answers for what are not two windows.
func checkNoCurve(t *testing.T, last int64, origin int64) {
	t.Helper()
	checkCubicTime(t, last, origin, -1)
	for _, ms := range []int64{-1, 0, 1, 118, 1000000, 1000001} {
		checkCubicAt(t, last, origin, ms, -1)
	}
}

// checkBack is the promise's first half: the curve is back at the last window
// after its time, and just then, if it has not been there from its start on.
func checkBack(t *testing.T, last int64, origin int64) {
	t.Helper()
	ms := checkCubicTime(t, last, origin, wantCubicTime(last, origin))
	checkCubicAt(t, last, origin, ms, last)
	checkCubicAt(t, last, origin, ms+1, last)
	if origin >= last {
		checkCubicAt(t, last, origin, 0, last)
		return
	}
	checkCubicAt(t, last, origin, ms-1, last-1)
	if start := impl.CubicAt(last, origin, 0); start < origin || start >= last {
		t.Fatalf("CubicAt(%d, %d, 0) = %d", last, origin, start)
	}
}

// checkNeverFalls is the promise's second half.
func checkNeverFalls(t *testing.T, last int64, origin int64, from int64, to int64) {
	t.Helper()
	from, to = max(from, 0), min(to, 1000000)
	before := int64(0)
	back := impl.CubicTime(last, origin)
	for ms := from; ms <= to; ms++ {
		at := impl.CubicAt(last, origin, ms)
		if at < before || at > 1000000000 || ms < back && at >= last || ms >= back && at < last {
			t.Fatalf("CubicAt(%d, %d, %d) = %d behind %d", last, origin, ms, at, before)
		}
		before = at
	}
}

// checkCubic holds both functions of a Cc against the plain account.
func checkCubic(t *testing.T, c impl.Cc, n int64, now int64) {
	t.Helper()
	checkCubicAck(t, c, n, now, wantCubicAck(c, n, now))
	checkCubicLoss(t, c, wantCubicLoss(c))
}

// checkNoCubic wants the fixed answers for a Cc that is not right.
func checkNoCubic(t *testing.T, c impl.Cc) {
	t.Helper()
	for _, n := range []int64{-1, 0, 1, 1500, 1000000000, 1000000001} {
		for _, now := range []int64{-1, 0, 1, 5000000, 1000000000000000, 1000000000000001} {
			checkCubicAck(t, c, n, now, impl.Cc{})
		}
	}
	checkCubicLoss(t, c, impl.Cc{})
}

// checkRightCubic wants all that is made of a right Cc to be right.
func checkRightCubic(t *testing.T, c impl.Cc) {
	t.Helper()
	for _, n := range []int64{1, 1500, 1000000000} {
		for _, now := range []int64{0, 1, c.Start, 124456789, 1000000000000000} {
			checkCurving(t, c, n, now)
		}
	}
	checkFalling(t, c)
}

func checkIsRightCubic(t *testing.T, c impl.Cc, is bool) {
	t.Helper()
	if is {
		checkRightCubic(t, c)
	} else {
		checkNoCubic(t, c)
	}
}

// checkCurving wants a window that never falls by what comes through, and stays
// within its bounds; and what is not the curve's to stay as it is.
func checkCurving(t *testing.T, c impl.Cc, n int64, now int64) impl.Cc {
	t.Helper()
	next := checkCubicAck(t, c, n, now, wantCubicAck(c, n, now))
	checkCcOk(t, next, true)
	if next.Window < c.Window || next.Window > 1000000000 || next.Flight != max(c.Flight-n, 0) {
		t.Fatalf("CubicAck(%+v, %d, %d) = %+v", c, n, now, next)
	}
	if next.Kind != c.Kind || next.Thresh != c.Thresh || next.Acked != c.Acked {
		t.Fatalf("CubicAck(%+v, %d, %d) = %+v", c, n, now, next)
	}
	if !isRisingByWords(c) {
		checkOnCurve(t, c, next)
		return next
	}
	if next.Window != min(c.Window+n, c.Thresh) || next.Slow != (next.Window < c.Thresh) {
		t.Fatalf("CubicAck(%+v, %d, %d) = %+v", c, n, now, next)
	}
	if next.Last != c.Last || next.Origin != c.Origin || next.Start != c.Start || next.Friend != c.Friend {
		t.Fatalf("CubicAck(%+v, %d, %d) = %+v", c, n, now, next)
	}
	return next
}

// checkOnCurve wants what holds of each window that is not in its first rise.
func checkOnCurve(t *testing.T, c impl.Cc, next impl.Cc) {
	t.Helper()
	if next.Slow != c.Slow || next.Start < 1 || next.Window < next.Friend || next.Friend < c.Friend && c.Start > 0 {
		t.Fatalf("of %+v came %+v", c, next)
	}
	if 2*next.Window > 3*c.Window && next.Window != next.Friend {
		t.Fatalf("of %+v came %+v: too much at once", c, next)
	}
	if c.Start > 0 && (next.Start != c.Start || next.Origin != c.Origin || next.Last != c.Last) {
		t.Fatalf("of %+v came %+v: the curve is another one", c, next)
	}
	if c.Start == 0 && (next.Origin != c.Window || next.Last != max(c.Last, c.Window) || next.Friend < c.Window) {
		t.Fatalf("of %+v came %+v: the curve begins elsewhere", c, next)
	}
}

// checkFalling wants a loss to leave seven tenths, and no trace of a curve.
func checkFalling(t *testing.T, c impl.Cc) impl.Cc {
	t.Helper()
	next := checkCubicLoss(t, c, wantCubicLoss(c))
	checkCcOk(t, next, true)
	if 10*next.Window > 7*c.Window && next.Window != 3000 {
		t.Fatalf("CubicLoss(%+v) = %+v: too much is left", c, next)
	}
	if 10*(next.Window+1) <= 7*c.Window || next.Window < 3000 {
		t.Fatalf("CubicLoss(%+v) = %+v: too little is left", c, next)
	}
	if next.Last > c.Window || c.Window >= c.Last && next.Last != c.Window || 20*next.Last <= 17*c.Window-20 {
		t.Fatalf("CubicLoss(%+v) = %+v", c, next)
	}
	if next.Start != 0 || next.Origin != 0 || next.Friend != 0 || next.Acked != 0 || next.Slow {
		t.Fatalf("CubicLoss(%+v) = %+v", c, next)
	}
	if next.Thresh != next.Window || next.Flight != c.Flight || next.Kind != c.Kind {
		t.Fatalf("CubicLoss(%+v) = %+v", c, next)
	}
	return next
}

func TestCubicTimeByHand(t *testing.T) {
	for _, c := range []struct{ last, origin, want int64 }{
		{100000, 70000, 3684},
		{15000, 10500, 1957},
		{0, 0, 0},
		{1, 1, 0},
		{1, 0, 118},
		{0, 1, 0},
		{2, 0, 149},
		{20000, 20000, 0},
		{20000, 19999, 118},
		{20000, 20001, 0},
		{3000, 1000000000, 0},
		{1000000000, 1000000000, 0},
		{1000000000, 999999999, 118},
		{999999999, 1000000000, 0},
		{1000000000, 700000000, 79370},
		{1000000000, 0, 118563},
		{999999999, 0, 118563},
		{1000000000, 1, 118563},
		{0, 1000000000, 0},
		// 600 times 2500000000 / 1500 is the cube of 1000, 75 times it that of 500.
		{600, 0, 1000},
		{599, 0, 999},
		{601, 0, 1000},
		{75, 0, 500},
		{74, 0, 497},
		{76, 0, 502},
	} {
		checkCubicTime(t, c.last, c.origin, c.want)
		checkCurveAt(t, c.last, c.origin, c.want)
	}
}

// The product of a difference of 75 times a cube is a cube too.
func TestCubicTimeOfCubes(t *testing.T) {
	for m := int64(1); 75*m*m*m <= 1000000000; m++ {
		way := 75 * m * m * m
		for _, origin := range []int64{0, 1, 3000, 1000000000 - way - 1, 1000000000 - way} {
			if origin < 0 || origin+way > 1000000000 {
				continue
			}
			checkCubicTime(t, origin+way, origin, 500*m)
			checkCubicTime(t, origin+way-1, origin, wantCubicTime(way-1, 0))
			if wantCubicTime(way-1, 0) >= 500*m {
				t.Fatal(way)
			}
			if origin+way < 1000000000 {
				checkCubicTime(t, origin+way+1, origin, wantCubicTime(way+1, 0))
			}
		}
	}
}

// Each time there is begins at the least difference that is enough for it.
func TestEachCubicTime(t *testing.T) {
	for ms := int64(1); ms <= 118563; ms++ {
		// The time is at least ms where 5000000 times the way is at least three cubes.
		way := (3*ms*ms*ms + 4999999) / 5000000
		if got := impl.CubicTime(way, 0); got < ms {
			t.Fatal(ms, way, got)
		}
		if got := impl.CubicTime(way-1, 0); got >= ms {
			t.Fatal(ms, way-1, got)
		}
	}
	// The next one would want more than the greatest difference.
	if way := int64(3*118564*118564*118564) / 5000000; way <= 1000000000 {
		t.Fatal(way)
	}
}

// windowEdges are around all bounds that a window of a curve has.
func windowEdges() []int64 {
	return []int64{
		math.MinInt64, math.MinInt64 + 1, -1000000000, -2, -1, 0, 1, 2, 2999, 3000, 3001,
		999999999, 1000000000, 1000000001, 1000000002, math.MaxInt64 - 1, math.MaxInt64,
	}
}

func TestCurvesAtEveryArgument(t *testing.T) {
	for _, last := range append(edges(), windowEdges()...) {
		for _, origin := range append(edges(), windowEdges()...) {
			if !isWindowByWords(last) || !isWindowByWords(origin) {
				checkNoCurve(t, last, origin)
				continue
			}
			for _, ms := range []int64{math.MinInt64, -1, 0, 1, 1000, 999999, 1000000, 1000001, math.MaxInt64} {
				checkCurveAt(t, last, origin, ms)
			}
		}
	}
	for _, ms := range edges() {
		checkCurveAt(t, 100000, 70000, ms)
		checkCurveAt(t, 1000000000, 0, ms)
		checkCurveAt(t, 0, 0, ms)
	}
}

func TestCurvesOfNoWindows(t *testing.T) {
	for _, x := range []int64{-1, -2, 1000000001, 1000000002, math.MinInt64, math.MaxInt64} {
		for _, window := range []int64{0, 1, 20000, 1000000000} {
			checkNoCurve(t, x, window)
			checkNoCurve(t, window, x)
		}
		checkNoCurve(t, x, x)
	}
	for _, ms := range []int64{-1, -2, 1000001, 1000002, math.MinInt64, math.MaxInt64} {
		checkCubicAt(t, 100000, 70000, ms, -1)
		checkCubicAt(t, 0, 0, ms, -1)
		checkCubicAt(t, 1000000000, 1000000000, ms, -1)
	}
}

func TestCubicAtByHand(t *testing.T) {
	for _, c := range []struct{ last, origin, ms, want int64 }{
		{100000, 70000, 3684, 100000},
		{100000, 70000, 0, 70000},
		{100000, 70000, 1, 70025},
		{100000, 70000, 2, 70049},
		{100000, 100000, 1000, 100600},
		{100000, 100001, 1000, 100600},
		{100000, 1000000000, 1000, 100600},
		// 500 ms are just 75 bytes: a quotient that is whole, on both sides.
		{1000, 925, 500, 1000},
		{1000, 925, 0, 925},
		{1000, 925, 1000, 1075},
		// 499 and 501 ms are 74.55 and 75.45: rounded down is away from 0 below.
		{1000, 925, 1, 925},
		{1000, 925, 999, 1074},
		{1000, 925, 1001, 1075},
		{1000, 925, 499, 999},
		{1000, 925, 501, 1000},
		{1000, 925, 382, 999},
		{1000, 925, 381, 998},
		{1000, 925, 618, 1000},
		{1000, 925, 619, 1001},
		{600, 0, 0, 0},
		{600, 0, 1, 1},
		{600, 0, 500, 525},
		{600, 0, 499, 524},
		{600, 0, 501, 525},
		{600, 0, 1500, 675},
		{601, 0, 0, 1},
		{1, 0, 0, 0},
		{1, 0, 117, 0},
		{1, 0, 118, 1},
		{1, 0, 236, 1},
		{1, 0, 237, 2},
		// The greatest product below 0 passes 64 bits if it is not cut down.
		{1000000000, 0, 0, 2787},
		{1000000000, 0, 1, 28089},
		{1000000000, 0, 2, 53392},
		{1000000000, 0, 118562, 999999999},
		{1000000000, 0, 118563, 1000000000},
		{1000000000, 700000000, 0, 700000596},
	} {
		checkCubicAt(t, c.last, c.origin, c.ms, c.want)
		checkCurveAt(t, c.last, c.origin, c.ms)
	}
}

// A curve that goes above MaxWindow stays at it, up to its last ms.
func TestCurveAtMaxWindow(t *testing.T) {
	for _, c := range []struct{ last, origin, ms, want int64 }{
		{1000000000, 1000000000, 0, 1000000000},
		{1000000000, 1000000000, 118, 1000000000},
		{1000000000, 1000000000, 119, 1000000000},
		{999999999, 999999999, 118, 999999999},
		{999999999, 999999999, 119, 1000000000},
		{999999999, 999999999, 150, 1000000000},
		{0, 0, 118562, 999971910},
		{0, 0, 118563, 999997212},
		{0, 0, 118564, 1000000000},
		{999400000, 999400000, 9999, 999999820},
		{999400000, 999400000, 10000, 1000000000},
		{999400001, 999400001, 10000, 1000000000},
		{999399999, 999399999, 10000, 999999999},
		{0, 0, 999999, 1000000000},
		{0, 0, 1000000, 1000000000},
		{100000, 70000, 1000000, 1000000000},
		{1000000000, 0, 118564, 1000000000},
		{1000000000, 0, 1000000, 1000000000},
	} {
		checkCubicAt(t, c.last, c.origin, c.ms, c.want)
		checkCurveAt(t, c.last, c.origin, c.ms)
	}
}

// Its time is rounded down, so no curve begins below its origin, and none is
// below 0: not even one that begins there, at its first ms.
func TestCurveFromNought(t *testing.T) {
	for last := int64(0); last <= 4000; last++ {
		if free := freeCurve(last, 0, 0); free.Sign() < 0 {
			t.Fatal(last, free)
		}
		checkCurveAt(t, last, 0, 0)
		checkBack(t, last, 0)
	}
	for m := int64(1); 75*m*m*m <= 1000000000; m++ {
		// Just a cube: it begins just at its origin.
		checkCubicAt(t, 75*m*m*m, 0, 0, 0)
		checkCubicAt(t, 1000000000, 1000000000-75*m*m*m, 0, 1000000000-75*m*m*m)
		checkBack(t, 75*m*m*m, 0)
		checkBack(t, 75*m*m*m-1, 0)
		checkBack(t, 75*m*m*m+1, 0)
	}
}

// curvePairs are a last window and an origin each.
func curvePairs() [][2]int64 {
	return [][2]int64{
		{0, 0}, {1, 0}, {0, 1}, {75, 0}, {600, 0}, {601, 0}, {3000, 3000}, {3000, 2100}, {3001, 3000},
		{3000, 3001}, {15000, 10500}, {100000, 70000}, {100000, 100001}, {1000000000, 0}, {1000000000, 1},
		{1000000000, 700000000}, {1000000000, 999999999}, {1000000000, 1000000000}, {999999999, 1000000000},
		{0, 1000000000}, {999999999, 0}, {500000000, 350000000},
	}
}

func TestCurveIsBack(t *testing.T) {
	for _, pair := range curvePairs() {
		checkBack(t, pair[0], pair[1])
	}
	state := uint64(111)
	for range 3000 {
		last, origin := anyWindow(&state, 0), anyWindow(&state, 0)
		checkBack(t, last, origin)
		checkBack(t, last, last*7/10)
		checkBack(t, last, max(last-1, 0))
	}
}

// From one ms to the next, on both sides of the time and up to the end.
func TestCurveNeverFalls(t *testing.T) {
	for _, pair := range curvePairs() {
		checkNeverFalls(t, pair[0], pair[1], 0, 130000)
		checkNeverFalls(t, pair[0], pair[1], 999000, 1000000)
	}
	checkNeverFalls(t, 1000000000, 0, 0, 1000000)
	checkNeverFalls(t, 0, 0, 0, 1000000)
	state := uint64(112)
	for range 1000 {
		last, origin := anyWindow(&state, 0), anyWindow(&state, 0)
		ms := impl.CubicTime(last, origin)
		checkNeverFalls(t, last, origin, 0, 50)
		checkNeverFalls(t, last, origin, ms-300, ms+300)
		some := mixed(&state) % 1000000
		checkNeverFalls(t, last, origin, some, some+50)
	}
}

func TestMixedCurves(t *testing.T) {
	state := uint64(113)
	for range 20000 {
		last, origin := anyWindow(&state, 0), anyWindow(&state, 0)
		if mixed(&state)%2 == 0 {
			origin = max(last-mixed(&state)%100000, 0)
		}
		ms := impl.CubicTime(last, origin)
		for _, ms := range []int64{mixed(&state) % 1000001, mixed(&state) % (2*ms + 2), ms - 1, ms, ms + 1} {
			checkCurveAt(t, last, origin, ms)
		}
	}
}

func TestCubicAckByHand(t *testing.T) {
	c := newCc(t, impl.CcCubic)
	c.Flight = 15000
	// The first rise: what comes through is more, and no curve begins.
	c = checkCubicAck(t, c, 5000, 7, impl.Cc{Kind: 2, Window: 20000, Thresh: 1000000000, Flight: 10000, Slow: true})
	c = checkCubicLoss(t, c, impl.Cc{Kind: 2, Window: 14000, Thresh: 14000, Flight: 10000, Last: 20000})
	// 1500 times 13500 / 238000 is 85.08; the curve takes 2154 ms.
	begun := impl.Cc{Kind: 2, Window: 14085, Thresh: 14000, Flight: 8500, Last: 20000, Origin: 14000, Start: 5000000, Friend: 14085}
	c = checkCubicAck(t, c, 1500, 5000000, begun)
	// A second later the curve is at 19077, 1154 ms off its last window.
	later := impl.Cc{Kind: 2, Window: 19077, Thresh: 14000, Flight: 7000, Last: 20000, Origin: 14000, Start: 5000000, Friend: 14169}
	c = checkCubicAck(t, c, 1500, 1005000000, later)
	later.Flight, later.Friend, later.Window = 5500, 14231, 20000
	c = checkCubicAck(t, c, 1500, 2159000000, later)
	// Far behind its time it rises quickly, but by no more than a half at once.
	later.Flight, later.Friend, later.Window = 4000, 14290, 30000
	c = checkCubicAck(t, c, 1500, 30000000000, later)
	later.Flight, later.Friend, later.Window = 2500, 14329, 45000
	c = checkCubicAck(t, c, 1500, 30000000000, later)
	checkCubicLoss(t, c, impl.Cc{Kind: 2, Window: 31500, Thresh: 31500, Flight: 2500, Last: 45000})
}

// n is less than Flight, just it, and more, in the first rise and behind it.
func TestFlightOfCubicAck(t *testing.T) {
	for _, slow := range []bool{true, false} {
		for _, flight := range []int64{0, 1, 2, 1500, 20000, 999999999, 1000000000} {
			c := curveOf(20000, 25000, 14000, 77, 18000)
			c.Thresh, c.Slow, c.Flight = 30000, slow, flight
			for _, n := range []int64{1, 2, flight - 1, flight, flight + 1, 1000000000} {
				if n < 1 || n > 1000000000 {
					continue
				}
				next := checkCurving(t, c, n, 1000000)
				if n >= flight && next.Flight != 0 || n < flight && next.Flight+n != flight {
					t.Fatal(c, n, next)
				}
			}
		}
	}
	c := curveOf(20000, 25000, 14000, 77, 18000)
	c.Flight = 1500
	for _, n := range []int64{1499, 1500, 1501} {
		if next := impl.CubicAck(c, n, 1000000); next.Flight != max(1500-n, 0) {
			t.Fatal(n, next)
		}
	}
}

// In the first rise it is as of RenoAck, whatever the time and the curve are.
func TestCubicFirstRise(t *testing.T) {
	for _, start := range []int64{0, 1, 5000000} {
		for _, now := range []int64{0, 1, 4999999, 5000000, 7000000, 1000000000000000} {
			c := curveOf(15000, 25000, 14000, start, 18000)
			c.Thresh, c.Slow = 20000, true
			for _, x := range []struct {
				n, window int64
				slow      bool
			}{
				{1, 15001, true}, {4999, 19999, true}, {5000, 20000, false}, {5001, 20000, false},
				{50000, 20000, false}, {1000000000, 20000, false},
			} {
				want := c
				want.Window, want.Slow, want.Flight = x.window, x.slow, max(50000-x.n, 0)
				checkCubicAck(t, c, x.n, now, want)
				checkRenoAck(t, c, x.n, want)
			}
		}
	}
}

// Slow with Window just Thresh or above it, and not Slow below it: the curve.
func TestCubicAckAroundThresh(t *testing.T) {
	for _, c := range []struct {
		thresh int64
		slow   bool
	}{
		{20000, true}, {19999, true}, {3000, true}, {20000, false}, {19999, false},
		{20001, false}, {25000, false}, {1000000000, false},
	} {
		from := curveOf(20000, 25000, 14000, 5000000, 20100)
		from.Thresh, from.Slow = c.thresh, c.slow
		// 34000 times 13500 / 340000 is just 1350.
		want := from
		want.Flight, want.Friend, want.Window = 16000, 21450, 21450
		checkCubicAck(t, from, 34000, 5000000, want)
		// Back at the last window, which is beyond each Thresh but two.
		want.Flight, want.Friend, want.Window = 49999, 20100, 25000
		checkCubicAck(t, from, 1, 5000000+1000000*impl.CubicTime(25000, 14000), want)
	}
	rising := curveOf(20000, 25000, 14000, 5000000, 20100)
	rising.Thresh, rising.Slow = 20001, true
	want := rising
	want.Window, want.Slow, want.Flight = 20001, false, 16000
	checkCubicAck(t, rising, 34000, 5000000, want)
}

// A curve begins where Start is 0, at now, but not at 0; with the Window from before.
func TestCubicAckBegins(t *testing.T) {
	for _, x := range []struct{ now, start int64 }{
		{0, 1}, {1, 1}, {2, 2}, {999999, 999999}, {1000000, 1000000}, {5000000, 5000000},
		{999999999999999, 999999999999999}, {1000000000000000, 1000000000000000},
	} {
		for _, last := range []struct{ was, is int64 }{
			{0, 20000}, {19998, 20000}, {19999, 20000}, {20000, 20000}, {20001, 20001}, {25000, 25000}, {1000000000, 1000000000},
		} {
			for _, slow := range []bool{true, false} {
				c := curveOf(20000, last.was, 77, 0, 88)
				c.Slow = slow
				want := c
				want.Last, want.Origin, want.Start = last.is, 20000, x.start
				want.Flight, want.Friend = 49999, 20000
				want.Window = max(20000, min(impl.CubicAt(last.is, 20000, 0), 30000))
				checkCubicAck(t, c, 1, x.now, want)
				want.Flight, want.Friend = 16000, 21350
				want.Window = max(21350, want.Window)
				checkCubicAck(t, c, 34000, x.now, want)
			}
		}
	}
}

// Of a curve that has begun nothing is begun anew, not even at Start 1.
func TestCubicAckGoesOn(t *testing.T) {
	for _, start := range []int64{1, 2, 999999999999999, 1000000000000000} {
		for _, last := range []int64{0, 19999, 20000, 20001} {
			c := curveOf(20000, last, 20000, start, 0)
			next := checkCurving(t, c, 1, start)
			if next.Start != start || next.Last != last || next.Origin != 20000 || next.Friend != 0 {
				t.Fatal(c, next)
			}
		}
	}
}

// The greatest curve is at 2787 at its start, a ms later at 28089, then at 53392.
func TestMillisecondsOfCurve(t *testing.T) {
	for _, x := range []struct{ start, now, window int64 }{
		{5000000, 5000000, 20000},
		{5000000, 5000001, 20000},
		{5000000, 5999999, 20000},
		{5000000, 6000000, 28089},
		{5000000, 6000001, 28089},
		{5000000, 6999999, 28089},
		{5000000, 7000000, 30000},
		// Start above now: the curve is at its start.
		{5000000, 4999999, 20000},
		{5000000, 4000000, 20000},
		{5000000, 3999999, 20000},
		{5000000, 0, 20000},
		{1000000000000000, 0, 20000},
		{1000000000000000, 999999999999999, 20000},
		{1, 1000000, 20000},
		{1, 1000001, 28089},
		{1, 1000002, 28089},
		// The last ms of a curve, and behind it.
		{5000000, 1000004999999, 30000},
		{5000000, 1000005000000, 30000},
		{5000000, 1000005000001, 30000},
		{5000000, 1000005999999, 30000},
		{5000000, 1000006000000, 30000},
		{5000000, 1000006000001, 30000},
		{1, 1000000000000000, 30000},
	} {
		c := curveOf(20000, 1000000000, 0, x.start, 0)
		want := c
		want.Flight, want.Window = 49999, x.window
		checkCubicAck(t, c, 1, x.now, want)
		checkCurving(t, c, 1, x.now)
	}
}

// Friend comes just to MaxWindow, to a byte less, and would come above it.
func TestFriendAtMaxWindow(t *testing.T) {
	for _, c := range []struct{ window, n, more int64 }{
		{1000000000, 1000000000, 794},
		{1000000000, 1, 0},
		{3000, 1000000000, 264705882},
		{13500, 17, 1},
		{20000, 34000, 1350},
	} {
		for _, x := range []struct{ friend, want int64 }{
			{1000000000 - c.more - 1, 999999999},
			{1000000000 - c.more, 1000000000},
			{min(1000000000-c.more+1, 1000000000), 1000000000},
			{1000000000, 1000000000},
		} {
			from := curveOf(c.window, 0, 0, 5000000, x.friend)
			want := from
			want.Flight, want.Friend, want.Window = max(50000-c.n, 0), x.want, max(x.want, c.window)
			checkCubicAck(t, from, c.n, 5000000, want)
		}
	}
}

// How much more Friend is: a quotient that is whole, and what is beside it.
func TestFriendByHand(t *testing.T) {
	for _, c := range []struct{ window, n, more int64 }{
		{13500, 1, 0}, {13500, 16, 0}, {13500, 17, 1}, {13500, 18, 1}, {13500, 33, 1}, {13500, 34, 2},
		{3000, 1, 0}, {3000, 3, 0}, {3000, 4, 1}, {3000, 34, 9}, {3000, 33, 8}, {3000, 35, 9},
		{20000, 33999, 1349}, {20000, 34000, 1350}, {20000, 34001, 1350},
		{20000, 1000000000, 39705882}, {1000000000, 1000000000, 794}, {999999999, 1000000000, 794},
		{1000000000, 1259259, 0}, {1000000000, 1259260, 1},
	} {
		// Far below Window, and just it: Friend above it is what Window becomes.
		for _, friend := range []int64{0, c.window - c.more - 1, c.window - c.more, c.window} {
			if friend < 0 {
				continue
			}
			from := curveOf(c.window, c.window, c.window, 5000000, friend)
			want := from
			want.Flight, want.Friend = max(50000-c.n, 0), min(friend+c.more, 1000000000)
			want.Window = max(want.Friend, c.window)
			checkCubicAck(t, from, c.n, 5000000, want)
		}
	}
}

// The target is below Window, just it, between it and its half more, just
// that, and above; with Friend below all of them, between, and above.
func TestWindowOfThree(t *testing.T) {
	for _, c := range []struct{ window, target, friend, want int64 }{
		{20000, 0, 0, 20000},
		{20000, 19999, 0, 20000},
		{20000, 20000, 0, 20000},
		{20000, 20001, 0, 20001},
		{20000, 29999, 0, 29999},
		{20000, 30000, 0, 30000},
		{20000, 30001, 0, 30000},
		{20000, 1000000000, 0, 30000},
		// An odd Window: the half of it is rounded down.
		{20001, 30000, 0, 30000},
		{20001, 30001, 0, 30001},
		{20001, 30002, 0, 30001},
		{3000, 4499, 0, 4499},
		{3000, 4500, 0, 4500},
		{3000, 4501, 0, 4500},
		{3001, 4502, 0, 4501},
		{3001, 4501, 0, 4501},
		{3001, 4500, 0, 4500},
		// Friend beside the target, and beside the half more.
		{20000, 25000, 24999, 25000},
		{20000, 25000, 25000, 25000},
		{20000, 25000, 25001, 25001},
		{20000, 50000, 29999, 30000},
		{20000, 50000, 30000, 30000},
		{20000, 50000, 30001, 30001},
		{20000, 0, 30001, 30001},
		{20000, 0, 1000000000, 1000000000},
		{20000, 0, 19999, 20000},
		{20000, 0, 20001, 20001},
		// At the upper bound, and where a half more would be above it.
		{1000000000, 1000000000, 1000000000, 1000000000},
		{1000000000, 0, 0, 1000000000},
		{999999999, 1000000000, 0, 1000000000},
		{999999999, 0, 1000000000, 1000000000},
		{666666666, 1000000000, 0, 999999999},
		{666666667, 1000000000, 0, 1000000000},
		{666666668, 1000000000, 0, 1000000000},
		{666666668, 999999999, 0, 999999999},
	} {
		// A curve from its last window on is at it at its start.
		from := curveOf(c.window, c.target, c.target, 5000000, c.friend)
		want := from
		want.Flight, want.Window = 49999, c.want
		checkCubicAck(t, from, 1, 5000000, want)
		checkCurving(t, from, 1, 5000000)
	}
}

func TestCubicAckRefuses(t *testing.T) {
	list := append(rightCcs(), newCc(t, 1), newCc(t, 2), newCc(t, 3), curveOf(20000, 25000, 14000, 0, 0))
	for _, c := range list {
		for _, n := range []int64{0, -1, -2, 1000000001, 1000000002, math.MinInt64, math.MinInt64 + 1, math.MaxInt64, math.MaxInt64 - 1} {
			for _, now := range []int64{0, 1, 5000000, 1000000000000000} {
				checkCubicAck(t, c, n, now, impl.Cc{})
			}
		}
		for _, now := range append(noTimes(), -2, 1000000000000002, math.MinInt64+1, math.MaxInt64-1) {
			for _, n := range []int64{1, 1500, 1000000000} {
				checkCubicAck(t, c, n, now, impl.Cc{})
			}
		}
		for _, n := range []int64{1, 1000000000} {
			for _, now := range []int64{0, 1, 1000000000000000} {
				if next := checkCurving(t, c, n, now); next == (impl.Cc{}) {
					t.Fatal(c, n, now)
				}
			}
		}
	}
}

// Each field by itself, at its bounds, just within them and just without.
func TestCubicFields(t *testing.T) {
	list := append(rightCcs(), curveOf(20000, 25000, 14000, 0, 0), curveOf(20000, 25000, 14000, 5000000, 18000))
	for _, f := range ccFields() {
		t.Run(f.name, func(t *testing.T) {
			for _, c := range list {
				for _, x := range []int64{f.low, f.low + 1, f.high - 1, f.high} {
					checkRightCubic(t, f.with(c, x))
				}
				for _, x := range []int64{f.low - 1, f.high + 1, math.MinInt64, math.MaxInt64} {
					checkNoCubic(t, f.with(c, x))
				}
				for _, x := range edges() {
					checkIsRightCubic(t, f.with(c, x), f.holds(x))
				}
			}
		})
	}
	checkNoCubic(t, impl.Cc{})
	checkNoCubic(t, impl.Cc{Slow: true})
}

// Kind changes nothing but itself.
func TestCubicOfEachKind(t *testing.T) {
	state := uint64(114)
	for range 300 {
		c := curveOf(anyWindow(&state, 3000), anyWindow(&state, 0), anyWindow(&state, 0), anyTime(&state), anyWindow(&state, 0))
		n, now := anyWindow(&state, 1), anyTime(&state)
		acked, lost := impl.CubicAck(c, n, now), impl.CubicLoss(c)
		for kind := int64(1); kind <= 3; kind++ {
			c.Kind, acked.Kind, lost.Kind = kind, kind, kind
			checkCubicAck(t, c, n, now, acked)
			checkCubicLoss(t, c, lost)
		}
	}
}

func TestCubicLossByHand(t *testing.T) {
	for _, c := range []struct{ window, last, want, wantLast int64 }{
		{20000, 0, 14000, 20000},
		{20000, 19999, 14000, 20000},
		{20000, 20000, 14000, 20000},
		{20000, 20001, 14000, 17000},
		{20000, 1000000000, 14000, 17000},
		{20001, 20002, 14000, 17000},
		{20002, 20003, 14001, 17001},
		{19999, 20000, 13999, 16999},
		{15000, 0, 10500, 15000},
		{3000, 0, 3000, 3000},
		{3000, 2999, 3000, 3000},
		{3000, 3000, 3000, 3000},
		{3000, 3001, 3000, 2550},
		{3001, 3002, 3000, 2550},
		// Seven tenths are just MinWindow, a byte less, and a byte more.
		{4285, 0, 3000, 4285},
		{4285, 4286, 3000, 3642},
		{4286, 0, 3000, 4286},
		{4286, 4287, 3000, 3643},
		{4287, 0, 3000, 4287},
		{4288, 0, 3001, 4288},
		{4288, 4289, 3001, 3644},
		{4289, 0, 3002, 4289},
		{999999999, 1000000000, 699999999, 849999999},
		{1000000000, 1000000000, 700000000, 1000000000},
		{1000000000, 0, 700000000, 1000000000},
	} {
		for _, thresh := range []int64{3000, c.window, 1000000000} {
			for _, slow := range []bool{true, false} {
				from := curveOf(c.window, c.last, 12345, 5000000, 23456)
				from.Thresh, from.Slow = thresh, slow
				want := impl.Cc{Kind: 2, Window: c.want, Thresh: c.want, Flight: 50000, Last: c.wantLast}
				checkCubicLoss(t, from, want)
				checkFalling(t, from)
			}
		}
	}
}

// Each Window of the least ones, with Last below it, just it and above.
func TestEachCubicLoss(t *testing.T) {
	for window := int64(3000); window <= 9000; window++ {
		for _, last := range []int64{0, window - 1, window, window + 1, 1000000000} {
			checkFalling(t, curveOf(window, last, 3000, 1, 3000))
		}
	}
}

// Behind the first loss, each one is at a Window below Last.
func TestCubicLossUponLoss(t *testing.T) {
	c := curveOf(1000000000, 1000000000, 777, 888, 999)
	for _, x := range []struct{ window, last int64 }{
		{700000000, 1000000000}, {490000000, 595000000}, {343000000, 416500000}, {240100000, 291550000},
		{168070000, 204085000}, {117649000, 142859500}, {82354300, 100001650}, {57648010, 70001155},
		{40353607, 49000808}, {28247524, 34300565}, {19773266, 24010395}, {13841286, 16807276},
		{9688900, 11765093}, {6782230, 8235565}, {4747561, 5764895},
	} {
		c = checkCubicLoss(t, c, impl.Cc{Kind: 2, Window: x.window, Thresh: x.window, Flight: 50000, Last: x.last})
	}
	for range 30 {
		c = checkFalling(t, c)
	}
	// At MinWindow it is below Last, then above it, and so on.
	c = impl.Cc{Kind: 2, Window: 3000, Thresh: 3000, Last: 3001}
	for _, last := range []int64{2550, 3000, 3000} {
		c = checkCubicLoss(t, c, impl.Cc{Kind: 2, Window: 3000, Thresh: 3000, Last: last})
	}
}

// The promise, of a Window: it comes back to where it was at the loss when the
// curve's time is over, and not a ms earlier.
func TestWindowIsBack(t *testing.T) {
	state := uint64(115)
	for range 2000 {
		c := curveOf(1000000+mixed(&state)%999000001, 0, 0, 0, 0)
		last := c.Window
		c = checkFalling(t, c)
		start := 1 + mixed(&state)%1000000000
		c = checkCurving(t, c, 1, start)
		time := impl.CubicTime(last, c.Origin)
		early := checkCurving(t, c, 1, start+1000000*time-1)
		if early.Window != last-1 {
			t.Fatal(last, c, early)
		}
		for _, from := range []impl.Cc{c, early} {
			if next := checkCurving(t, from, 1, start+1000000*time); next.Window != last {
				t.Fatal(last, c, next)
			}
		}
	}
}

// A cubicRow is a Cc, the time it is at, and what happened to it.
type cubicRow struct {
	t     *testing.T
	state uint64
	cc    impl.Cc
	now   int64
	met   map[string]int
}

func (r *cubicRow) fill() {
	for range 20 {
		n := 1 + mixed(&r.state)%1500
		if mixed(&r.state)%3 > 0 {
			n = min(max(r.cc.Window-r.cc.Flight, 1), 1500)
		}
		want, wantOk := wantSent(r.cc, n)
		next := checkSent(r.t, r.cc, n, want, wantOk)
		if !wantOk {
			r.met["full"]++
			break
		}
		r.cc = next
		r.met["sent"]++
	}
}

// goOn lets a time go by: some of a ms, some ms, or some minutes.
func (r *cubicRow) goOn() {
	longest := []int64{1, 2000000, 100000000, 3000000000, 2000000000000}[mixed(&r.state)%5]
	r.now = min(r.now+mixed(&r.state)%longest, 1000000000000000)
}

func (r *cubicRow) ack() {
	n := 1 + mixed(&r.state)%max(r.cc.Flight, 1)
	if mixed(&r.state)%16 == 0 {
		n = 1 + mixed(&r.state)%100000
	}
	before := r.cc
	r.cc = checkCurving(r.t, r.cc, n, r.now)
	r.tell(before)
}

// tell counts which of the three a Window became, and what was ahead of it.
func (r *cubicRow) tell(before impl.Cc) {
	if isRisingByWords(before) {
		r.met["first rise"]++
		return
	}
	if before.Start == 0 {
		r.met["begun"]++
	}
	switch r.cc.Window {
	case before.Window:
		r.met["stays"]++
	case r.cc.Friend:
		r.met["friend"]++
	case 3 * before.Window / 2:
		r.met["a half more"]++
	default:
		r.met["target"]++
	}
}

func (r *cubicRow) lose() {
	if r.cc.Window < r.cc.Last {
		r.met["lost below last"]++
	} else {
		r.met["lost at last"]++
	}
	r.cc = checkFalling(r.t, r.cc)
}

func (r *cubicRow) move() {
	r.goOn()
	switch mixed(&r.state) % 24 {
	case 0, 1:
		r.lose()
	case 2, 3, 4, 5, 6, 7, 8:
		r.fill()
	default:
		r.ack()
	}
}

func TestCubicRows(t *testing.T) {
	met := map[string]int{}
	for kind := int64(1); kind <= 3; kind++ {
		for k := range 150 {
			r := cubicRow{t: t, state: uint64(2000*kind) + uint64(k), cc: newCc(t, kind), met: met}
			for range 150 {
				r.move()
			}
			if r.cc.Kind != kind || r.cc.Acked != 0 {
				t.Fatal(r.cc)
			}
		}
	}
	for _, name := range []string{
		"full", "sent", "first rise", "begun", "stays", "friend", "a half more", "target", "lost below last", "lost at last",
	} {
		if met[name] < 20 {
			t.Fatal("too few of a kind were met:", name, met)
		}
	}
}

// With a way that loses a segment each time so much is in flight, the Window
// goes to and fro between that and seven tenths of it.
func TestCubicSawtooth(t *testing.T) {
	const bears = 60000
	c := newCc(t, impl.CcCubic)
	losses := 0
	for step := range int64(4000) {
		for c.Flight+1500 <= c.Window {
			c, _ = impl.Sent(c, 1500)
		}
		if c.Flight > bears {
			c = checkFalling(t, c)
			losses++
		}
		c = checkCurving(t, c, min(c.Flight, 1500), 2000000*step)
		if c.Window > bears+3000 || losses > 0 && c.Window < bears*7/10 {
			t.Fatal(c, losses)
		}
	}
	if losses < 2 {
		t.Fatal(losses)
	}
}

// aroundStart is a time that a curve from start on is told for, or just not.
func aroundStart(state *uint64, start int64) int64 {
	ms := []int64{0, 1, 118563, 999999, 1000000, 1000001, mixed(state) % 1000000}[mixed(state)%7]
	return min(max(start+1000000*ms+mixed(state)%5-2, 0), 1000000000000000)
}

func TestMixedCubics(t *testing.T) {
	state := uint64(116)
	right, wrong := 0, 0
	for range 20000 {
		c := anyCc(&state)
		if mixed(&state)%4 == 0 {
			c.Start = 0
		}
		checkCubic(t, c, anyWindow(&state, 0)+mixed(&state)%5-2, anyTime(&state)+mixed(&state)%5-2)
		if !wantCcOk(c) {
			wrong++
			checkNoCubic(t, c)
			continue
		}
		right++
		checkCurving(t, c, anyWindow(&state, 1), anyTime(&state))
		checkCurving(t, c, 1+mixed(&state)%20000, aroundStart(&state, c.Start))
		checkCurving(t, c, min(max(c.Thresh-c.Window+mixed(&state)%5-2, 1), 1000000000), anyTime(&state))
		checkFalling(t, c)
	}
	if right < 5000 || wrong < 1500 {
		t.Fatal("too few of a kind were met:", right, wrong)
	}
}

func TestCubicsAtEveryArgument(t *testing.T) {
	rising := ccOf(20000, 30000, 9000, 7000, true)
	curving := curveOf(20000, 25000, 14000, 5000000, 18000)
	for _, a := range edges() {
		for _, b := range edges() {
			checkCubic(t, rising, a, b)
			checkCubic(t, curving, a, b)
			for _, f := range ccFields() {
				checkCubic(t, f.with(curving, a), b, 6000000)
				checkCubic(t, f.with(curving, a), 1500, b)
			}
		}
	}
	fields := ccFields()
	for i, f := range fields {
		for _, g := range fields[:i] {
			for _, a := range edges() {
				for _, b := range []int64{math.MinInt64, -1, 0, 1, 3000, 1000000000, math.MaxInt64} {
					checkCubic(t, g.with(f.with(curving, a), b), 1500, 7000000)
				}
			}
		}
	}
}

// What one call answers hangs on no other call, however many there are at once.
func TestCubicsAtOnce(t *testing.T) {
	var workers sync.WaitGroup
	wrong := make([]int, 8)
	for k := range wrong {
		workers.Go(func() {
			state := uint64(120 + k)
			c, _ := impl.NewCc(int64(k%3) + 1)
			want, now := c, int64(0)
			for range 1000 {
				n := 1 + mixed(&state)%20000
				now += mixed(&state) % 1000000000
				if mixed(&state)%8 == 0 {
					c, want = impl.CubicLoss(c), wantCubicLoss(want)
				} else {
					c, want = impl.CubicAck(c, n, now), wantCubicAck(want, n, now)
				}
				if c != want || impl.CubicTime(c.Window, n) != wantCubicTime(c.Window, n) {
					wrong[k]++
				}
			}
		})
	}
	workers.Wait()
	if slices.Max(wrong) > 0 {
		t.Fatal(wrong)
	}
}
