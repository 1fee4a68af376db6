package tests

import (
	"math"
	"math/big"
	"slices"
	"sync"
	"testing"

	"loop.example/g00147/impl"
)

func tripOf(smooth int64, vary int64, backoff int64) impl.Trip {
	return impl.Trip{Known: true, Smooth: smooth, Vary: vary, Backoff: backoff}
}

func unknownTrip(backoff int64) impl.Trip { return impl.Trip{Backoff: backoff} }

func withBackoff(x impl.Trip, backoff int64) impl.Trip {
	x.Backoff = backoff
	return x
}

// weighedByWords is (weight times known, and measured) / (weight and 1),
// rounded down, by numbers that know no bound.
func weighedByWords(weight int64, known int64, measured int64) int64 {
	sum := new(big.Int).Mul(big.NewInt(weight), big.NewInt(known))
	sum.Add(sum, big.NewInt(measured))
	return sum.Div(sum, big.NewInt(weight+1)).Int64()
}

func differenceByWords(a int64, b int64) int64 {
	difference := new(big.Int).Sub(big.NewInt(a), big.NewInt(b))
	return difference.Abs(difference).Int64()
}

func wantTripOk(x impl.Trip) bool {
	if !x.Known && (x.Smooth != 0 || x.Vary != 0) {
		return false
	}
	return isOf(x.Smooth, 1e15) && isOf(x.Vary, 1e15) && isOf(x.Backoff, 10)
}

func wantMeasure(x impl.Trip, ns int64) impl.Trip {
	if !wantTripOk(x) || !isOf(ns, 1e15) {
		return impl.Trip{}
	}
	if !x.Known {
		return tripOf(ns, weighedByWords(1, 0, ns), 0)
	}
	return tripOf(weighedByWords(7, x.Smooth, ns), weighedByWords(3, x.Vary, differenceByWords(x.Smooth, ns)), 0)
}

func greaterBig(a *big.Int, b *big.Int) *big.Int {
	if a.Cmp(b) > 0 {
		return a
	}
	return b
}

func wantWait(x impl.Trip) int64 {
	if !wantTripOk(x) {
		return -1
	}
	wait := big.NewInt(1e9)
	if x.Known {
		vary := new(big.Int).Mul(big.NewInt(x.Vary), big.NewInt(4))
		vary = greaterBig(vary, big.NewInt(1e6))
		wait = greaterBig(vary.Add(vary, big.NewInt(x.Smooth)), big.NewInt(2e8))
	}
	power := new(big.Int).Exp(big.NewInt(2), big.NewInt(x.Backoff), nil)
	wait = wait.Mul(wait, power)
	if bound := big.NewInt(6e10); wait.Cmp(bound) > 0 {
		wait = bound
	}
	return wait.Int64()
}

func wantExpire(x impl.Trip) impl.Trip {
	if !wantTripOk(x) {
		return impl.Trip{}
	}
	if x.Backoff < 10 {
		x.Backoff++
	}
	return x
}

func checkTripOk(t *testing.T, x impl.Trip, want bool) {
	t.Helper()
	if got := impl.TripOk(x); got != want {
		t.Fatalf("TripOk(%+v) = %v, not %v", x, got, want)
	}
}

func checkMeasure(t *testing.T, x impl.Trip, ns int64, want impl.Trip) impl.Trip {
	t.Helper()
	got := impl.Measure(x, ns)
	if got != want {
		t.Fatalf("Measure(%+v, %d) = %+v, not %+v", x, ns, got, want)
	}
	return got
}

func checkWait(t *testing.T, x impl.Trip, want int64) {
	t.Helper()
	if got := impl.Wait(x); got != want {
		t.Fatalf("Wait(%+v) = %d, not %d", x, got, want)
	}
}

func checkExpire(t *testing.T, x impl.Trip, want impl.Trip) impl.Trip {
	t.Helper()
	got := impl.Expire(x)
	if got != want {
		t.Fatalf("Expire(%+v) = %+v, not %+v", x, got, want)
	}
	return got
}

// checkTrip holds all functions against the plain account.
func checkTrip(t *testing.T, x impl.Trip, ns int64) {
	t.Helper()
	checkTripOk(t, x, wantTripOk(x))
	checkMeasure(t, x, ns, wantMeasure(x, ns))
	checkWait(t, x, wantWait(x))
	checkExpire(t, x, wantExpire(x))
}

// checkNoTrip wants the fixed answers for a Trip that is not right.
func checkNoTrip(t *testing.T, x impl.Trip) {
	t.Helper()
	checkTripOk(t, x, false)
	for _, ns := range []int64{-1, 0, 1, 1000, impl.MaxTime, impl.MaxTime + 1} {
		checkMeasure(t, x, ns, impl.Trip{})
	}
	checkWait(t, x, -1)
	checkExpire(t, x, impl.Trip{})
}

// checkRightTrip wants a Trip to be right, and all that is made of it.
func checkRightTrip(t *testing.T, x impl.Trip) {
	t.Helper()
	checkTripOk(t, x, true)
	for _, ns := range []int64{-1, 0, 1, 1000, x.Smooth, impl.MaxTime, impl.MaxTime + 1} {
		checkTrip(t, x, ns)
	}
	checkTripOk(t, impl.Expire(x), true)
	checkBetween(t, x, 777)
}

func checkIsRightTrip(t *testing.T, x impl.Trip, is bool) {
	t.Helper()
	if is {
		checkRightTrip(t, x)
	} else {
		checkNoTrip(t, x)
	}
}

func liesBetween(x int64, a int64, b int64) bool { return min(a, b) <= x && x <= max(a, b) }

// checkBetween is the promise: what is estimated behind a measure lies between
// what was known and what was measured.
func checkBetween(t *testing.T, x impl.Trip, ns int64) impl.Trip {
	t.Helper()
	next := checkMeasure(t, x, ns, wantMeasure(x, ns))
	checkTripOk(t, next, true)
	if !next.Known || next.Backoff != 0 {
		t.Fatalf("Measure(%+v, %d) = %+v", x, ns, next)
	}
	if !x.Known {
		if next.Smooth != ns || next.Vary != ns/2 {
			t.Fatalf("Measure(%+v, %d) = %+v", x, ns, next)
		}
		return next
	}
	off := differenceByWords(x.Smooth, ns)
	if !liesBetween(next.Smooth, x.Smooth, ns) || !liesBetween(next.Vary, x.Vary, off) {
		t.Fatalf("Measure(%+v, %d) = %+v is not between", x, ns, next)
	}
	return next
}

// checkRow measures one after the other from the zero Trip on.
func checkRow(t *testing.T, row []int64) impl.Trip {
	t.Helper()
	var x impl.Trip
	for i, ns := range row {
		// A wait that expired in between changes nothing of the estimate.
		for range i % 3 {
			x = checkExpire(t, x, wantExpire(x))
		}
		x = checkBetween(t, x, ns)
		checkWait(t, x, wantWait(x))
	}
	return x
}

func TestTripLimits(t *testing.T) {
	if impl.Grain != 1000000 || impl.MinWait != 200000000 || impl.MaxWait != 60000000000 {
		t.Fatal(impl.Grain, impl.MinWait, impl.MaxWait)
	}
}

func TestMeasureByHand(t *testing.T) {
	x := checkMeasure(t, impl.Trip{}, 800, tripOf(800, 400, 0))
	// 7 times 800 and 1600 are 7200; 3 times 400 and the 800 between them 2000.
	x = checkMeasure(t, x, 1600, tripOf(900, 500, 0))
	// 7 times 900 and 100 are 6400; 3 times 500 and 800 are 2300.
	x = checkMeasure(t, x, 100, tripOf(800, 575, 0))
	// Of the same again nothing comes to Vary: 3 times 575 are 1725.
	x = checkMeasure(t, x, 800, tripOf(800, 431, 0))
	// 5603 / 8 is 700 and 3 over; 1293 and 797 are 2090, 522 and 2 over.
	checkMeasure(t, x, 3, tripOf(700, 522, 0))
}

// The difference is that of the measure and the Smooth from before it.
func TestSmoothFromBefore(t *testing.T) {
	checkMeasure(t, tripOf(0, 0, 0), 80, tripOf(10, 20, 0))
	checkMeasure(t, tripOf(80, 0, 0), 0, tripOf(70, 20, 0))
	checkMeasure(t, tripOf(1000, 100, 0), 9000, tripOf(2000, 2075, 0))
	checkMeasure(t, tripOf(9000, 100, 0), 1000, tripOf(8000, 2075, 0))
}

func TestFirstMeasure(t *testing.T) {
	for backoff := range int64(11) {
		x := unknownTrip(backoff)
		checkMeasure(t, x, 0, tripOf(0, 0, 0))
		checkMeasure(t, x, 1, tripOf(1, 0, 0))
		checkMeasure(t, x, 2, tripOf(2, 1, 0))
		checkMeasure(t, x, 3, tripOf(3, 1, 0))
		checkMeasure(t, x, 4, tripOf(4, 2, 0))
		checkMeasure(t, x, impl.MaxTime-1, tripOf(impl.MaxTime-1, impl.MaxTime/2-1, 0))
		checkMeasure(t, x, impl.MaxTime, tripOf(impl.MaxTime, impl.MaxTime/2, 0))
		for _, ns := range noTimes() {
			checkMeasure(t, x, ns, impl.Trip{})
		}
	}
}

// A Trip that is Known is not at its first measure, even if both times are 0.
func TestKnownOfNoughts(t *testing.T) {
	checkMeasure(t, tripOf(0, 0, 0), 1000, tripOf(125, 250, 0))
	checkMeasure(t, impl.Trip{}, 1000, tripOf(1000, 500, 0))
	checkWait(t, tripOf(0, 0, 0), 200000000)
	checkWait(t, impl.Trip{}, 1000000000)
	x := checkMeasure(t, impl.Trip{}, 0, tripOf(0, 0, 0))
	checkMeasure(t, x, 8, tripOf(1, 2, 0))
}

func TestRows(t *testing.T) {
	rows := map[string]func(i int64) int64{
		"alike":          func(int64) int64 { return 123456789 },
		"noughts":        func(int64) int64 { return 0 },
		"ones":           func(int64) int64 { return 1 },
		"greatest":       func(int64) int64 { return impl.MaxTime },
		"rising by one":  func(i int64) int64 { return i },
		"rising":         func(i int64) int64 { return 1000003 * i },
		"rising far":     func(i int64) int64 { return impl.MaxTime / 200 * (i + 1) },
		"falling by one": func(i int64) int64 { return 5000 - i },
		"falling":        func(i int64) int64 { return 300000000 - 1000003*i },
		"falling far":    func(i int64) int64 { return impl.MaxTime - impl.MaxTime/200*(i+1) },
		"to and fro":     func(i int64) int64 { return i % 2 * impl.MaxTime },
		"fro and to":     func(i int64) int64 { return (i + 1) % 2 * impl.MaxTime },
		"a late one":     func(i int64) int64 { return 50000000 + i%10/9*700000000 },
	}
	for name, of := range rows {
		t.Run(name, func(t *testing.T) {
			var row []int64
			for i := range int64(200) {
				row = append(row, of(i))
			}
			checkRow(t, row)
			slices.Reverse(row)
			checkRow(t, row)
		})
	}
}

// anyTime is of any count of bits, and often a bound.
func anyTime(state *uint64) int64 {
	switch mixed(state) % 8 {
	case 0:
		return 0
	case 1:
		return impl.MaxTime
	case 2:
		return impl.MaxTime - mixed(state)%9
	}
	return mixed(state) % (impl.MaxTime + 1)
}

func TestMixedRows(t *testing.T) {
	state := uint64(91)
	for range 300 {
		var row []int64
		for range 60 {
			row = append(row, anyTime(&state))
		}
		checkRow(t, row)
	}
	// Measures of an ordinary net: some ten milliseconds, more or less.
	for range 300 {
		var row []int64
		for range 60 {
			row = append(row, 20000000+mixed(&state)%90000000)
		}
		checkRow(t, row)
	}
}

// Each rest of a division by 8 and by 4, at each side of what is known.
func TestRestsOfMeasures(t *testing.T) {
	for smooth := range int64(40) {
		for vary := range int64(9) {
			for ns := range int64(60) {
				checkBetween(t, tripOf(smooth, vary, 3), ns)
			}
		}
	}
	for rest := range int64(8) {
		checkMeasure(t, tripOf(800, 0, 0), 800+rest, tripOf(800, rest/4, 0))
		checkMeasure(t, tripOf(800, 0, 0), 808+rest, tripOf(801, 2+rest/4, 0))
		// Below what is known, rounded down is further away.
		below := int64(799)
		if rest == 0 {
			below = 800
		}
		checkMeasure(t, tripOf(800, 0, 0), 800-rest, tripOf(below, rest/4, 0))
	}
	for rest := range int64(4) {
		checkMeasure(t, tripOf(800, 400, 0), 800+400+rest, tripOf(850, 400, 0))
		checkMeasure(t, tripOf(800, 400+4*rest, 0), 800, tripOf(800, 300+3*rest, 0))
		checkMeasure(t, tripOf(800, 400+rest, 0), 800, tripOf(800, 300+3*rest/4, 0))
	}
}

// Measures at, beside and farthest from what is known, at its bounds.
func TestMeasureAtBounds(t *testing.T) {
	const most = impl.MaxTime
	const half = most / 2
	for _, c := range []struct {
		smooth, vary, ns, wantSmooth, wantVary int64
	}{
		{0, 0, 0, 0, 0},
		{0, 0, 1, 0, 0},
		{0, 0, 8, 1, 2},
		{0, 0, most, most / 8, most / 4},
		{0, most, 0, 0, most / 4 * 3},
		{0, most, 1, 0, most / 4 * 3},
		{0, most, most, most / 8, most},
		{most, 0, most, most, 0},
		{most, 0, most - 1, most - 1, 0},
		{most, 0, most - 8, most - 1, 2},
		{most, 0, 0, most / 8 * 7, most / 4},
		{most, most, most, most, most / 4 * 3},
		{most, most, most - 1, most - 1, most / 4 * 3},
		{most, most, 0, most / 8 * 7, most},
		{half, 7, half, half, 5},
		{half, 7, half + 1, half, 5},
		{half, 7, half - 1, half - 1, 5},
		{half, 0, 0, half / 8 * 7, half / 4},
		{half, half, most, half + half/8, half},
	} {
		for backoff := range int64(11) {
			x := tripOf(c.smooth, c.vary, backoff)
			checkMeasure(t, x, c.ns, tripOf(c.wantSmooth, c.wantVary, 0))
			checkBetween(t, x, c.ns)
		}
	}
}

func TestMeasureBesideSmooth(t *testing.T) {
	times := []int64{0, 1, 2, 7, 8, 9, 1000, 500000001, impl.MaxTime - 8, impl.MaxTime - 1, impl.MaxTime}
	for _, smooth := range times {
		for _, vary := range times {
			for _, ns := range append([]int64{smooth - 1, smooth, smooth + 1}, times...) {
				checkTrip(t, tripOf(smooth, vary, 2), ns)
				if isOf(ns, impl.MaxTime) {
					checkBetween(t, tripOf(smooth, vary, 2), ns)
				}
			}
		}
	}
}

func TestMeasureRefuses(t *testing.T) {
	for _, x := range []impl.Trip{{}, unknownTrip(10), tripOf(0, 0, 0), tripOf(5, 6, 7), tripOf(impl.MaxTime, impl.MaxTime, 10)} {
		for _, ns := range append(noTimes(), -2, impl.MaxTime+2, math.MinInt64+1, math.MaxInt64-1) {
			checkMeasure(t, x, ns, impl.Trip{})
		}
		for _, ns := range []int64{0, impl.MaxTime} {
			if !checkMeasure(t, x, ns, wantMeasure(x, ns)).Known {
				t.Fatal(x, ns)
			}
		}
	}
}

// settled measures one time again and again until nothing changes any more.
func settled(t *testing.T, x impl.Trip, ns int64) impl.Trip {
	t.Helper()
	for range 1000 {
		next := checkBetween(t, x, ns)
		if differenceByWords(next.Smooth, ns) > differenceByWords(x.Smooth, ns) {
			t.Fatalf("Measure(%+v, %d) = %+v is farther off", x, ns, next)
		}
		if next == x {
			return x
		}
		x = next
	}
	t.Fatalf("%+v does not settle at %d", x, ns)
	return x
}

// checkSettles wants Smooth to come to the measure itself from above. From below
// it comes to 7 less, for a difference below 8 is rounded off; what is nearer
// already stays there.
func checkSettles(t *testing.T, smooth int64, vary int64, ns int64) {
	t.Helper()
	x := settled(t, tripOf(smooth, vary, 0), ns)
	below := min(max(ns-smooth, 0), 7)
	if x.Smooth != ns-below {
		t.Fatalf("from %d and %d by %d: %+v", smooth, vary, ns, x)
	}
	// What is left of the difference is all that Vary is kept up by.
	if x.Vary > below || below == 0 && x.Vary != 0 {
		t.Fatalf("from %d and %d by %d: %+v", smooth, vary, ns, x)
	}
}

func TestOneMeasureAgainAndAgain(t *testing.T) {
	times := []int64{0, 1, 5, 8, 100, 1000000, 100000000, impl.MaxTime / 3, impl.MaxTime - 9, impl.MaxTime}
	for _, smooth := range times {
		for _, ns := range times {
			for _, vary := range []int64{0, 1, 4, 7, 8, 1000, impl.MaxTime} {
				checkSettles(t, smooth, vary, ns)
			}
		}
	}
	for off := int64(-20); off <= 20; off++ {
		checkSettles(t, 1000+off, 50, 1000)
	}
	// From the first measure on nothing but Vary ever changes.
	for _, ns := range times {
		if x := settled(t, impl.Trip{}, ns); x != tripOf(ns, 0, 0) {
			t.Fatal(ns, x)
		}
	}
}

func TestWaitBeforeTheFirstMeasure(t *testing.T) {
	waits := []int64{
		1000000000, 2000000000, 4000000000, 8000000000, 16000000000, 32000000000,
		60000000000, 60000000000, 60000000000, 60000000000, 60000000000,
	}
	for backoff, wait := range waits {
		checkWait(t, unknownTrip(int64(backoff)), wait)
	}
}

func TestWaitBehindMeasures(t *testing.T) {
	x := impl.Measure(impl.Trip{}, 100000000)
	checkWait(t, x, 300000000)
	x = impl.Measure(x, 100000000)
	checkWait(t, x, 250000000)
	x = impl.Measure(x, 180000000)
	// Smooth is 110000000, Vary (112500000 and 80000000) / 4.
	checkWait(t, x, 110000000+4*48125000)
	for range 100 {
		x = impl.Measure(x, 300000000)
	}
	// All has settled: Vary is below Grain.
	checkWait(t, x, x.Smooth+1000000)
	if x.Smooth < 299000000 || x.Smooth > 300000000 {
		t.Fatal(x)
	}
	for range 100 {
		x = impl.Measure(x, 30000000)
	}
	checkWait(t, x, 200000000)
}

func TestWaitOfGrain(t *testing.T) {
	const smooth = 500000000
	checkWait(t, tripOf(smooth, 0, 0), smooth+1000000)
	checkWait(t, tripOf(smooth, 1, 0), smooth+1000000)
	checkWait(t, tripOf(smooth, 249999, 0), smooth+1000000)
	checkWait(t, tripOf(smooth, 250000, 0), smooth+1000000)
	checkWait(t, tripOf(smooth, 250001, 0), smooth+1000004)
	checkWait(t, tripOf(smooth, 250002, 0), smooth+1000008)
	for backoff := range int64(7) {
		checkWait(t, tripOf(smooth, 249999, backoff), (smooth+1000000)<<backoff)
		checkWait(t, tripOf(smooth, 250000, backoff), (smooth+1000000)<<backoff)
		checkWait(t, tripOf(smooth, 250001, backoff), (smooth+1000004)<<backoff)
	}
}

func TestWaitOfMinWait(t *testing.T) {
	for _, c := range []struct{ smooth, vary, want int64 }{
		{0, 0, 200000000},
		{198999999, 0, 200000000},
		{199000000, 0, 200000000},
		{199000001, 0, 200000001},
		{199000000, 250001, 200000004},
		{0, 49999999, 200000000},
		{0, 50000000, 200000000},
		{0, 50000001, 200000004},
		{99999999, 25000000, 200000000},
		{100000000, 25000000, 200000000},
		{100000001, 25000000, 200000001},
	} {
		for backoff := range int64(11) {
			// What is doubled is the wait that was brought up to MinWait.
			checkWait(t, tripOf(c.smooth, c.vary, backoff), min(c.want<<backoff, 60000000000))
		}
	}
}

// tripsThatWait have not expired, and wait just so long for unlike reasons.
func tripsThatWait(wait int64) []impl.Trip {
	return []impl.Trip{
		tripOf(wait-1000000, 0, 0),
		tripOf(wait-1000000, 250000, 0),
		tripOf(wait-4*300000, 300000, 0),
		tripOf(wait%4, wait/4, 0),
	}
}

// At each Backoff the wait that comes just to MaxWait, one step less and one more.
func TestWaitOfMaxWait(t *testing.T) {
	for backoff := range int64(9) {
		just := int64(60000000000) >> backoff
		for _, c := range []struct{ plain, want int64 }{
			{just - 1, 60000000000 - 1<<backoff},
			{just, 60000000000},
			{just + 1, 60000000000},
			{2 * just, 60000000000},
		} {
			for _, x := range tripsThatWait(c.plain) {
				checkWait(t, x, min(c.plain, 60000000000))
				checkWait(t, withBackoff(x, backoff), c.want)
			}
		}
	}
	// MinWait alone is above what could still be doubled nine times.
	checkWait(t, tripOf(0, 0, 8), 51200000000)
	checkWait(t, tripOf(0, 0, 9), 60000000000)
	checkWait(t, tripOf(0, 0, 10), 60000000000)
	for _, plain := range []int64{58593749, 58593750, 58593751, 117187499, 117187500, 117187501} {
		for _, x := range tripsThatWait(plain) {
			checkWait(t, withBackoff(x, 9), 60000000000)
			checkWait(t, withBackoff(x, 10), 60000000000)
		}
	}
}

func TestWaitOfTheGreatest(t *testing.T) {
	const most = impl.MaxTime
	for backoff := range int64(11) {
		checkWait(t, tripOf(most, most, backoff), 60000000000)
		checkWait(t, tripOf(most, 0, backoff), 60000000000)
		checkWait(t, tripOf(0, most, backoff), 60000000000)
		checkWait(t, tripOf(most-1, most-1, backoff), 60000000000)
	}
	checkWait(t, tripOf(60000000001, 0, 0), 60000000000)
	checkWait(t, tripOf(0, 15000000000, 0), 60000000000)
	checkWait(t, tripOf(0, 14999999999, 0), 59999999996)
}

// checkDoubling is the promise: each Expire doubles the wait up to its bound.
func checkDoubling(t *testing.T, x impl.Trip) {
	t.Helper()
	wait := impl.Wait(x)
	for x.Backoff < 10 {
		x = checkExpire(t, x, withBackoff(x, x.Backoff+1))
		wait = min(2*wait, 60000000000)
		checkWait(t, x, wait)
		checkWait(t, x, wantWait(x))
	}
	// No further: as often as it expires, all stays.
	for range 3 {
		x = checkExpire(t, x, x)
		checkWait(t, x, wait)
	}
}

func TestWaitsDouble(t *testing.T) {
	state := uint64(92)
	for _, x := range []impl.Trip{
		{}, tripOf(0, 0, 0), tripOf(100000000, 50000000, 0), tripOf(199000000, 0, 0), tripOf(199000001, 0, 0),
		tripOf(impl.MaxTime, impl.MaxTime, 0), tripOf(59999000000, 0, 0), tripOf(29999000000, 1, 0),
	} {
		checkDoubling(t, x)
	}
	for range 3000 {
		checkDoubling(t, tripOf(mixed(&state)%70000000000, mixed(&state)%20000000000, mixed(&state)%11))
		checkDoubling(t, tripOf(mixed(&state)%500000000, mixed(&state)%100000000, 0))
		checkDoubling(t, tripOf(anyTime(&state), anyTime(&state), 0))
	}
}

func TestWaitsDoubleByHand(t *testing.T) {
	x := impl.Measure(impl.Measure(impl.Trip{}, 100000000), 180000000)
	waits := []int64{
		340000000, 680000000, 1360000000, 2720000000, 5440000000, 10880000000, 21760000000, 43520000000,
		60000000000, 60000000000, 60000000000, 60000000000,
	}
	for expired, wait := range waits {
		checkWait(t, x, wait)
		x = checkExpire(t, x, tripOf(110000000, 57500000, min(int64(expired)+1, 10)))
	}
	// What comes through ends the backing off.
	x = checkMeasure(t, x, 110000000, tripOf(110000000, 43125000, 0))
	checkWait(t, x, 110000000+4*43125000)
}

func TestExpire(t *testing.T) {
	for backoff := range int64(11) {
		next := min(backoff+1, 10)
		checkExpire(t, unknownTrip(backoff), unknownTrip(next))
		checkExpire(t, tripOf(0, 0, backoff), tripOf(0, 0, next))
		checkExpire(t, tripOf(7, 8, backoff), tripOf(7, 8, next))
		checkExpire(t, tripOf(impl.MaxTime, impl.MaxTime, backoff), tripOf(impl.MaxTime, impl.MaxTime, next))
	}
	checkExpire(t, tripOf(7, 8, 9), tripOf(7, 8, 10))
	checkExpire(t, tripOf(7, 8, 10), tripOf(7, 8, 10))
	checkExpire(t, tripOf(7, 8, 11), impl.Trip{})
	checkExpire(t, tripOf(7, 8, -1), impl.Trip{})
}

// A wait that expires ahead of the first measure is no measure.
func TestExpireBeforeTheFirstMeasure(t *testing.T) {
	var x impl.Trip
	for expired := range int64(12) {
		checkMeasure(t, x, 80, tripOf(80, 40, 0))
		x = checkExpire(t, x, unknownTrip(min(expired+1, 10)))
	}
}

func TestTripTimes(t *testing.T) {
	for _, ns := range append(edges(), -1, 0, 1, impl.MaxTime-1, impl.MaxTime, impl.MaxTime+1) {
		for backoff := range int64(11) {
			checkIsRightTrip(t, tripOf(ns, 5, backoff), isOf(ns, impl.MaxTime))
			checkIsRightTrip(t, tripOf(5, ns, backoff), isOf(ns, impl.MaxTime))
			checkIsRightTrip(t, tripOf(ns, ns, backoff), isOf(ns, impl.MaxTime))
		}
	}
}

func TestTripBackoffs(t *testing.T) {
	for _, backoff := range append(edges(), -1, 0, 1, 9, 10, 11, 12, 63, 64, 65) {
		is := backoff >= 0 && backoff <= 10
		checkIsRightTrip(t, unknownTrip(backoff), is)
		checkIsRightTrip(t, tripOf(0, 0, backoff), is)
		checkIsRightTrip(t, tripOf(9, 8, backoff), is)
		checkIsRightTrip(t, tripOf(impl.MaxTime, impl.MaxTime, backoff), is)
	}
}

func TestTripWithoutKnown(t *testing.T) {
	for backoff := range int64(11) {
		checkRightTrip(t, unknownTrip(backoff))
		for _, ns := range append(edges(), -1, 1, 2, impl.MaxTime) {
			checkIsRightTrip(t, impl.Trip{Smooth: ns, Backoff: backoff}, ns == 0)
			checkIsRightTrip(t, impl.Trip{Vary: ns, Backoff: backoff}, ns == 0)
			checkIsRightTrip(t, impl.Trip{Smooth: ns, Vary: ns, Backoff: backoff}, ns == 0)
			checkIsRightTrip(t, impl.Trip{Smooth: ns, Vary: -ns, Backoff: backoff}, ns == 0)
		}
	}
}

func TestTripsByHand(t *testing.T) {
	checkTripOk(t, impl.Trip{}, true)
	checkTripOk(t, impl.Trip{Known: true}, true)
	checkTripOk(t, tripOf(1000000000000000, 1000000000000000, 10), true)
	for _, x := range []impl.Trip{
		{Smooth: 1}, {Vary: 1}, {Smooth: -1}, {Vary: -1}, {Backoff: 11}, {Backoff: -1},
		tripOf(1000000000000001, 0, 0), tripOf(0, 1000000000000001, 0), tripOf(0, 0, 11),
		tripOf(-1, 0, 0), tripOf(0, -1, 0), tripOf(0, 0, -1),
	} {
		checkNoTrip(t, x)
	}
}

func TestTripsAtEveryArgument(t *testing.T) {
	list := edges()
	for _, known := range []bool{true, false} {
		for _, a := range list {
			for _, b := range list {
				checkTrip(t, impl.Trip{Known: known, Smooth: a, Vary: b, Backoff: 4}, 7)
				checkTrip(t, impl.Trip{Known: known, Smooth: a, Backoff: b}, 7)
				checkTrip(t, impl.Trip{Known: known, Vary: a, Backoff: b}, 7)
				checkTrip(t, impl.Trip{Known: known, Smooth: a}, b)
				checkTrip(t, impl.Trip{Known: known, Vary: a}, b)
				checkTrip(t, impl.Trip{Known: known, Backoff: a}, b)
			}
		}
	}
}

// anyTrip is right, but for one number at times that is a little out of range.
func anyTrip(state *uint64) impl.Trip {
	x := unknownTrip(mixed(state) % 11)
	if mixed(state)%4 > 0 {
		x = tripOf(anyTime(state), anyTime(state), x.Backoff)
	}
	switch mixed(state) % 12 {
	case 0:
		x.Known = !x.Known
	case 1:
		x.Smooth = impl.MaxTime + mixed(state)%2
	case 2:
		x.Vary = impl.MaxTime + mixed(state)%2
	case 3:
		x.Backoff = 10 + mixed(state)%2
	case 4:
		x.Smooth = mixed(state)%2 - 1
	case 5:
		x.Vary = mixed(state)%2 - 1
	case 6:
		x.Backoff = mixed(state)%2 - 1
	}
	return x
}

func TestMixedTrips(t *testing.T) {
	state := uint64(93)
	right, wrong := 0, 0
	for range 30000 {
		x := anyTrip(&state)
		checkTrip(t, x, anyTime(&state)+mixed(&state)%5-2)
		if impl.TripOk(x) {
			right++
			checkBetween(t, x, anyTime(&state))
			checkDoubling(t, x)
		} else {
			wrong++
			checkNoTrip(t, x)
		}
	}
	if right < 5000 || wrong < 3000 {
		t.Fatal("too few of a kind were met:", right, wrong)
	}
}

// What one call answers hangs on no other call, however many there are at once.
func TestTripsAtOnce(t *testing.T) {
	var workers sync.WaitGroup
	wrong := make([]int, 8)
	for k := range wrong {
		workers.Go(func() {
			state := uint64(94 + k)
			var x, want impl.Trip
			for range 2000 {
				ns := anyTime(&state)
				x, want = impl.Measure(x, ns), wantMeasure(want, ns)
				for range mixed(&state) % 12 {
					x, want = impl.Expire(x), wantExpire(want)
				}
				if x != want || impl.Wait(x) != wantWait(want) {
					wrong[k]++
				}
			}
		})
	}
	workers.Wait()
	if slices.Max(wrong) > 0 {
		t.Fatal(wrong)
	}
}
