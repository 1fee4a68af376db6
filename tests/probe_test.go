package tests

import (
	"math"
	"math/big"
	"slices"
	"sync"
	"testing"

	"loop.example/g00147/impl"
)

// How long a PbTrip lasts, and how long a round trip and a rate count, by the
// words of the chapter.
const (
	stay  = 200000000
	holds = 10000000000
)

// A view is what is seen at a time.
type view struct{ now, rate, trip, flight int64 }

// probeOf has something in each field. 60000 bytes go at its best rate in its
// MinTrip.
func probeOf(state int64) impl.Probe {
	return impl.Probe{
		State: state, Cycle: 4, Since: 5000000000, Top: 2900000, Stale: 1,
		Band:    filterOf(impl.Sample{At: 1000000000, Value: 3000000}, impl.Sample{At: 4000000000, Value: 1000000}),
		MinTrip: 20000000, TripAt: 3000000000,
	}
}

// probeFrom has just one item in its Band, at its times.
func probeFrom(state int64, at int64, best int64, minTrip int64) impl.Probe {
	return impl.Probe{
		State: state, Since: at, TripAt: at, MinTrip: minTrip,
		Band: filterOf(impl.Sample{At: at, Value: best}),
	}
}

func newProbe(t *testing.T, at int64) impl.Probe {
	t.Helper()
	p, ok := impl.NewProbe(at)
	if !ok {
		t.Fatalf("NewProbe(%d) is refused", at)
	}
	return p
}

func copiedProbe(p impl.Probe) impl.Probe {
	p.Band.Items = slices.Clone(p.Band.Items)
	return p
}

func changedProbe(p impl.Probe, change func(*impl.Probe)) impl.Probe {
	p = copiedProbe(p)
	change(&p)
	return p
}

func withBand(p impl.Probe, band impl.Filter) impl.Probe {
	p.Band = band
	return p
}

// A probeField is a number of a Probe, and its bounds by the words of the chapter.
type probeField struct {
	name      string
	of        func(*impl.Probe) *int64
	low, high int64
}

func probeFields() []probeField {
	return []probeField{
		{"State", func(p *impl.Probe) *int64 { return &p.State }, 1, 4},
		{"Cycle", func(p *impl.Probe) *int64 { return &p.Cycle }, 0, 7},
		{"Since", func(p *impl.Probe) *int64 { return &p.Since }, 0, 1000000000000000},
		{"Top", func(p *impl.Probe) *int64 { return &p.Top }, 0, 1000000000000},
		{"Stale", func(p *impl.Probe) *int64 { return &p.Stale }, 0, 3},
		{"MinTrip", func(p *impl.Probe) *int64 { return &p.MinTrip }, 0, 1000000000000000},
		{"TripAt", func(p *impl.Probe) *int64 { return &p.TripAt }, 0, 1000000000000000},
	}
}

func (f probeField) with(p impl.Probe, x int64) impl.Probe {
	*f.of(&p) = x
	return p
}

func (f probeField) holds(x int64) bool { return x >= f.low && x <= f.high }

func isSameProbe(a impl.Probe, b impl.Probe) bool {
	for _, f := range probeFields() {
		if *f.of(&a) != *f.of(&b) {
			return false
		}
	}
	return slices.Equal(a.Band.Items, b.Band.Items)
}

func wantProbeOk(p impl.Probe) bool {
	for _, f := range probeFields() {
		if !f.holds(*f.of(&p)) {
			return false
		}
	}
	return wantFilterOk(p.Band, true)
}

func bestByWords(f impl.Filter) int64 {
	best := int64(0)
	for _, s := range f.Items {
		best = max(best, s.Value)
	}
	return best
}

func wantGain(p impl.Probe) int64 {
	if !wantProbeOk(p) {
		return 0
	}
	if p.State == 3 {
		return []int64{125, 75, 100, 100, 100, 100, 100, 100}[p.Cycle]
	}
	return map[int64]int64{1: 289, 2: 35, 4: 100}[p.State]
}

func wantPace(p impl.Probe) int64 {
	if !wantProbeOk(p) {
		return 0
	}
	return atMostBig(partByWords(big.NewInt(bestByWords(p.Band)), wantGain(p), 100), 1000000000000)
}

func wantCap(p impl.Probe) int64 {
	if !wantProbeOk(p) {
		return 0
	}
	if p.State == 4 {
		return 6000
	}
	bytes := big.NewInt(wantBytes(bestByWords(p.Band), p.MinTrip))
	return atMostBig(greaterBig(bytes.Lsh(bytes, 1), big.NewInt(6000)), 1000000000)
}

func isSeenByWords(p impl.Probe, v view) bool {
	if !wantProbeOk(p) || !isOf(v.now, 1e15) || !isOf(v.rate, 1e12) || !isOf(v.flight, 1e9) {
		return false
	}
	return v.trip >= 1 && v.trip <= 1e15 && v.now >= p.Since && v.now >= p.TripAt
}

// wantObserve goes through the chapter's sentences one by one; p stays what it
// was before.
func wantObserve(p impl.Probe, v view) impl.Probe {
	band, ok := wantPush(p.Band, impl.Sample{At: v.now, Value: v.rate}, holds, true)
	if !ok || !isSeenByWords(p, v) {
		return impl.Probe{}
	}
	q := withBand(p, band)
	best := bestByWords(band)
	hasStayed := p.State == 4 && v.now-p.Since >= stay
	if p.MinTrip == 0 || v.trip <= p.MinTrip || hasStayed {
		q.MinTrip, q.TripAt = v.trip, v.now
	}
	bound := partByWords(big.NewInt(p.Top), 5, 4).Int64()
	if p.State == 1 && best > bound {
		q.Top, q.Stale = best, 0
	}
	if p.State == 1 && best <= bound && p.Stale < 3 {
		q.Stale = p.Stale + 1
	}
	if p.State == 1 && best <= bound && q.Stale == 3 {
		q.State, q.Since = 2, v.now
	}
	if q.State == 2 && v.flight <= wantBytes(best, q.MinTrip) {
		q.State, q.Cycle, q.Since = 3, 0, v.now
	}
	if p.State == 3 && v.now-p.Since >= q.MinTrip {
		q.Cycle, q.Since = []int64{1, 2, 3, 4, 5, 6, 7, 0}[p.Cycle], v.now
	}
	if p.State != 4 && q.State != 4 && v.now-q.TripAt >= holds {
		q.State, q.Since = 4, v.now
	}
	if hasStayed {
		q.State, q.Cycle, q.Since = 3, 0, v.now
	}
	return q
}

func checkProbeOk(t *testing.T, p impl.Probe, want bool) {
	t.Helper()
	if ok := impl.ProbeOk(p); ok != want {
		t.Fatalf("ProbeOk(%+v) = %v, not %v", p, ok, want)
	}
}

func checkGain(t *testing.T, p impl.Probe, want int64) {
	t.Helper()
	if got := impl.Gain(p); got != want {
		t.Fatalf("Gain(%+v) = %d, not %d", p, got, want)
	}
}

func checkPace(t *testing.T, p impl.Probe, want int64) {
	t.Helper()
	if got := impl.Pace(p); got != want {
		t.Fatalf("Pace(%+v) = %d, not %d", p, got, want)
	}
}

func checkCap(t *testing.T, p impl.Probe, want int64) {
	t.Helper()
	if got := impl.Cap(p); got != want {
		t.Fatalf("Cap(%+v) = %d, not %d", p, got, want)
	}
}

func observe(p impl.Probe, v view) impl.Probe {
	return impl.Observe(p, v.now, v.rate, v.trip, v.flight)
}

func checkObserve(t *testing.T, p impl.Probe, v view, want impl.Probe) impl.Probe {
	t.Helper()
	got := observe(p, v)
	if !isSameProbe(got, want) {
		t.Fatalf("Observe(%+v, %+v) = %+v, not %+v", p, v, got, want)
	}
	return got
}

// checkMoves wants just the change that is told by hand, beside the Band's.
func checkMoves(t *testing.T, p impl.Probe, v view, change func(*impl.Probe)) impl.Probe {
	t.Helper()
	band, _ := wantPush(p.Band, impl.Sample{At: v.now, Value: v.rate}, holds, true)
	checkSeeing(t, p, v)
	return checkObserve(t, p, v, changedProbe(withBand(p, band), change))
}

func checkStays(t *testing.T, p impl.Probe, v view) impl.Probe {
	t.Helper()
	return checkMoves(t, p, v, func(*impl.Probe) {})
}

func checkUnseen(t *testing.T, p impl.Probe, v view) {
	t.Helper()
	checkObserve(t, p, v, impl.Probe{})
}

// checkProbe holds all functions against the plain account.
func checkProbe(t *testing.T, p impl.Probe, v view) {
	t.Helper()
	checkProbeOk(t, p, wantProbeOk(p))
	checkGain(t, p, wantGain(p))
	checkPace(t, p, wantPace(p))
	checkCap(t, p, wantCap(p))
	checkObserve(t, p, v, wantObserve(p, v))
}

// checkNoProbe wants the fixed answers for a Probe that is not right.
func checkNoProbe(t *testing.T, p impl.Probe) {
	t.Helper()
	checkProbeOk(t, p, false)
	checkGain(t, p, 0)
	checkPace(t, p, 0)
	checkCap(t, p, 0)
	for _, now := range []int64{-1, 0, 5000000000, 1000000000000000, 1000000000000001} {
		checkUnseen(t, p, view{now, 1000000, 20000000, 30000})
		checkUnseen(t, p, view{now, 0, 1, 0})
	}
}

// checkPromised is the promise: a Probe is right, and its cap is at least four
// segments; and what its pace and its cap are bound to.
func checkPromised(t *testing.T, p impl.Probe) {
	t.Helper()
	checkProbeOk(t, p, true)
	if got := impl.Cap(p); got < 4*1500 || got > 1000000000 || p.State == 4 && got != 6000 {
		t.Fatalf("Cap(%+v) = %d", p, got)
	}
	checkCap(t, p, wantCap(p))
	checkGain(t, p, wantGain(p))
	pace := partByWords(big.NewInt(impl.Best(p.Band)), impl.Gain(p), 100)
	checkPace(t, p, atMostBig(pace, 1000000000000))
}

// checkSeeing wants what is made of a right Probe to be right, and to be what
// holds of each that was seen.
func checkSeeing(t *testing.T, p impl.Probe, v view) impl.Probe {
	t.Helper()
	next := checkObserve(t, p, v, wantObserve(p, v))
	checkPromised(t, next)
	if next.MinTrip < 1 || next.MinTrip > v.trip && next.MinTrip != p.MinTrip || next.Since != p.Since && next.Since != v.now {
		t.Fatalf("Observe(%+v, %+v) = %+v", p, v, next)
	}
	if next.TripAt != p.TripAt && (next.TripAt != v.now || next.MinTrip != v.trip) {
		t.Fatalf("Observe(%+v, %+v) = %+v", p, v, next)
	}
	if next.State != p.State && next.Since != v.now || next.Since < p.Since || next.TripAt < p.TripAt {
		t.Fatalf("Observe(%+v, %+v) = %+v", p, v, next)
	}
	if p.State != 1 && (next.State == 1 || next.Top != p.Top || next.Stale != p.Stale) {
		t.Fatalf("Observe(%+v, %+v) = %+v", p, v, next)
	}
	if impl.Best(next.Band) < v.rate || impl.Since(next.Band, v.now) > holds {
		t.Fatalf("Observe(%+v, %+v) = %+v", p, v, next)
	}
	return next
}

func lastAt(f impl.Filter) int64 {
	if len(f.Items) == 0 {
		return 0
	}
	return f.Items[len(f.Items)-1].At
}

// earliest is the first time at which something may be seen.
func earliest(p impl.Probe) int64 { return max(p.Since, p.TripAt, lastAt(p.Band)) }

// checkRightProbe wants a Probe to be right, and all that is made of it.
func checkRightProbe(t *testing.T, p impl.Probe) {
	t.Helper()
	checkPromised(t, p)
	from := earliest(p)
	for _, later := range []int64{0, 1, 20000000, stay - 1, stay, holds - 1, holds, holds + 1} {
		now := min(from+later, 1000000000000000)
		for _, trip := range []int64{1, 19999999, 20000000, 20000001, 1000000000000000} {
			checkSeeing(t, p, view{now, 1000000, trip, 60000})
			checkSeeing(t, p, view{now, 4000000, trip, 0})
		}
	}
}

func checkIsRightProbe(t *testing.T, p impl.Probe, is bool) {
	t.Helper()
	if is {
		checkRightProbe(t, p)
	} else {
		checkNoProbe(t, p)
	}
}

func TestProbeStates(t *testing.T) {
	if impl.PbStart != 1 || impl.PbDrain != 2 || impl.PbCruise != 3 || impl.PbTrip != 4 {
		t.Fatal(impl.PbStart, impl.PbDrain, impl.PbCruise, impl.PbTrip)
	}
}

func TestNewProbe(t *testing.T) {
	for _, at := range append(edges(), -1, 0, 1, 999999999999999, 1000000000000000, 1000000000000001) {
		p, ok := impl.NewProbe(at)
		var want impl.Probe
		isTime := isOf(at, 1e15)
		if isTime {
			want = impl.Probe{State: 1, Since: at, TripAt: at}
		}
		if ok != isTime || !isSameProbe(p, want) {
			t.Fatalf("NewProbe(%d) = %+v, %v", at, p, ok)
		}
		checkIsRightProbe(t, p, isTime)
	}
	for _, at := range []int64{0, 1000000000000000} {
		p := newProbe(t, at)
		checkGain(t, p, 289)
		checkPace(t, p, 0)
		checkCap(t, p, 6000)
	}
	for _, at := range []int64{-1, 1000000000000001} {
		if p, ok := impl.NewProbe(at); ok || !isSameProbe(p, impl.Probe{}) {
			t.Fatalf("NewProbe(%d) = %+v, %v", at, p, ok)
		}
	}
}

// rightProbes are in each state, with and without a Band and a MinTrip.
func rightProbes() []impl.Probe {
	var list []impl.Probe
	for state := int64(1); state <= 4; state++ {
		list = append(list, probeOf(state), probeFrom(state, 0, 0, 0), impl.Probe{State: state})
		list = append(list, impl.Probe{State: state, Cycle: 7, Stale: 3, MinTrip: 1000000000000000, Top: 1000000000000})
	}
	return list
}

// Each field by itself, at its bounds, just within them and just without.
func TestProbeFields(t *testing.T) {
	for _, f := range probeFields() {
		t.Run(f.name, func(t *testing.T) {
			for _, p := range rightProbes() {
				for _, x := range []int64{f.low, f.low + 1, f.high - 1, f.high} {
					checkRightProbe(t, f.with(p, x))
				}
				for _, x := range []int64{f.low - 1, f.high + 1, math.MinInt64, math.MaxInt64} {
					checkNoProbe(t, f.with(p, x))
				}
				for _, x := range append(edges(), -1, 0, 1, 2, 3, 4, 5, 6, 7, 8, 9) {
					checkIsRightProbe(t, f.with(p, x), f.holds(x))
				}
			}
		})
	}
}

func TestProbeFieldsByHand(t *testing.T) {
	p := probeOf(3)
	for _, c := range []struct {
		set   func(*impl.Probe, int64)
		right []int64
		wrong []int64
	}{
		{func(p *impl.Probe, x int64) { p.State = x }, []int64{1, 2, 3, 4}, []int64{-1, 0, 5}},
		{func(p *impl.Probe, x int64) { p.Cycle = x }, []int64{0, 1, 2, 3, 4, 5, 6, 7}, []int64{-1, 8}},
		{func(p *impl.Probe, x int64) { p.Since = x }, []int64{0, 1000000000000000}, []int64{-1, 1000000000000001}},
		{func(p *impl.Probe, x int64) { p.TripAt = x }, []int64{0, 1000000000000000}, []int64{-1, 1000000000000001}},
		{func(p *impl.Probe, x int64) { p.MinTrip = x }, []int64{0, 1000000000000000}, []int64{-1, 1000000000000001}},
		{func(p *impl.Probe, x int64) { p.Top = x }, []int64{0, 1000000000000}, []int64{-1, 1000000000001}},
		{func(p *impl.Probe, x int64) { p.Stale = x }, []int64{0, 1, 2, 3}, []int64{-1, 4}},
	} {
		for _, x := range c.right {
			checkRightProbe(t, changedProbe(p, func(p *impl.Probe) { c.set(p, x) }))
		}
		for _, x := range c.wrong {
			checkNoProbe(t, changedProbe(p, func(p *impl.Probe) { c.set(p, x) }))
		}
	}
	checkNoProbe(t, impl.Probe{})
	checkRightProbe(t, impl.Probe{State: 1})
}

func TestProbeBands(t *testing.T) {
	const first = 1000000000
	high, low := impl.Sample{At: 3, Value: 9}, impl.Sample{At: 8, Value: 6}
	for state := int64(1); state <= 4; state++ {
		p := probeOf(state)
		for _, band := range []impl.Filter{
			{}, {Items: []impl.Sample{}}, filterOf(high), filterOf(high, low), filterOf(impl.Sample{}),
			filterOf(impl.Sample{Value: 1000000000000}, impl.Sample{At: 1000000000000000}),
			falling(99, first, 5000000, 7), falling(100, first, 5000000, 7),
		} {
			checkRightProbe(t, withBand(p, band))
		}
		for _, band := range []impl.Filter{
			filterOf(low, high), filterOf(high, high), filterOf(high, impl.Sample{At: 3, Value: 6}),
			filterOf(high, impl.Sample{At: 8, Value: 9}), filterOf(impl.Sample{At: 3, Value: 6}, impl.Sample{At: 8, Value: 9}),
			filterOf(impl.Sample{At: -1, Value: 9}), filterOf(impl.Sample{At: 1000000000000001, Value: 9}),
			filterOf(impl.Sample{At: 3, Value: -1}), filterOf(impl.Sample{At: 3, Value: 1000000000001}),
			falling(100, first, 5000000, -7), falling(101, first, 5000000, 7), falling(300, first, 5000000, 7),
		} {
			checkNoProbe(t, withBand(p, band))
		}
	}
}

func TestGain(t *testing.T) {
	for cycle := int64(0); cycle <= 7; cycle++ {
		at := func(state int64) impl.Probe {
			return probeFields()[1].with(probeOf(state), cycle)
		}
		checkGain(t, at(1), 289)
		checkGain(t, at(2), 35)
		checkGain(t, at(3), []int64{125, 75, 100, 100, 100, 100, 100, 100}[cycle])
		checkGain(t, at(4), 100)
	}
	for _, cycle := range []int64{-1, 8} {
		for state := int64(0); state <= 5; state++ {
			checkGain(t, probeFields()[1].with(probeOf(state), cycle), 0)
		}
	}
	checkGain(t, probeOf(0), 0)
	checkGain(t, probeOf(5), 0)
	checkGain(t, impl.Probe{}, 0)
}

func TestPace(t *testing.T) {
	for _, c := range []struct{ state, cycle, best, want int64 }{
		{1, 0, 0, 0}, {1, 0, 1, 2}, {1, 0, 2, 5}, {1, 0, 99, 286}, {1, 0, 100, 289}, {1, 0, 101, 291}, {1, 0, 1000000, 2890000},
		{2, 0, 1, 0}, {2, 0, 2, 0}, {2, 0, 3, 1}, {2, 0, 5, 1}, {2, 0, 6, 2}, {2, 0, 1000001, 350000}, {2, 0, 1000003, 350001},
		{3, 0, 1, 1}, {3, 0, 3, 3}, {3, 0, 4, 5}, {3, 1, 1, 0}, {3, 1, 3, 2}, {3, 1, 4, 3}, {3, 2, 7, 7}, {3, 7, 7, 7},
		{4, 0, 7, 7}, {4, 1, 7, 7},
		// Just MaxRate, a little less and more, by each gain.
		{1, 0, 346020761245, 999999999998}, {1, 0, 346020761246, 1000000000000}, {1, 0, 346020761247, 1000000000000},
		{1, 0, 1000000000000, 1000000000000},
		{2, 0, 999999999999, 349999999999}, {2, 0, 1000000000000, 350000000000},
		{3, 0, 799999999999, 999999999998}, {3, 0, 800000000000, 1000000000000}, {3, 0, 800000000001, 1000000000000},
		{3, 0, 1000000000000, 1000000000000},
		{3, 1, 999999999999, 749999999999}, {3, 1, 1000000000000, 750000000000},
		{3, 2, 999999999999, 999999999999}, {3, 5, 1000000000000, 1000000000000},
		{4, 0, 999999999999, 999999999999}, {4, 3, 1000000000000, 1000000000000},
	} {
		p := probeFrom(c.state, 5, c.best, 1000000)
		p.Cycle = c.cycle
		checkPace(t, p, c.want)
		checkPromised(t, p)
		// What is behind the best one counts nothing.
		p.Band.Items = append(p.Band.Items, impl.Sample{At: 9, Value: c.best - 1})
		checkPace(t, p, map[bool]int64{true: c.want}[c.best > 0])
	}
	for state := int64(1); state <= 4; state++ {
		checkPace(t, withBand(probeOf(state), impl.Filter{}), 0)
	}
}

func TestCap(t *testing.T) {
	for _, c := range []struct{ best, minTrip, want int64 }{
		{0, 0, 6000}, {0, 1000000000000000, 6000}, {1000000000000, 0, 6000}, {1, 1, 6000},
		{1000000, 20000000, 40000},
		// Bytes are 2999, 3000, 3001: twice them is around four segments.
		{2999, 1000000000, 6000}, {3000, 1000000000, 6000}, {3001, 1000000000, 6002},
		{3000, 999999999, 6000}, {3000, 1000000001, 6000},
		// Rounded down first, and then doubled.
		{3001, 999999999, 6000}, {3002, 999999999, 6002}, {60001, 500000000, 60000},
		{499999999, 1000000000, 999999998}, {500000000, 1000000000, 1000000000}, {500000001, 1000000000, 1000000000},
		{500000000, 999999999, 999999998}, {500000000, 1000000001, 1000000000},
		{1000000000000, 500000, 1000000000}, {1000000000000, 499999, 999998000}, {1000000000000, 500001, 1000000000},
		{1000000000000, 1000000000000000, 1000000000}, {999999999999, 999999999999999, 1000000000},
	} {
		for state := int64(1); state <= 3; state++ {
			checkCap(t, probeFrom(state, 5, c.best, c.minTrip), c.want)
		}
		checkCap(t, probeFrom(4, 5, c.best, c.minTrip), 6000)
		for state := int64(1); state <= 4; state++ {
			checkPromised(t, probeFrom(state, 5, c.best, c.minTrip))
			checkCap(t, withBand(probeFrom(state, 5, c.best, c.minTrip), impl.Filter{}), 6000)
		}
	}
}

// Each of the three that now is held against, by itself the latest.
func TestSeenAtTheEarliest(t *testing.T) {
	for state := int64(1); state <= 4; state++ {
		for k := range 3 {
			ats := []int64{7000000000, 7000000000, 7000000000}
			ats[k] = 8000000000
			p := probeOf(state)
			p.Since, p.TripAt, p.Band.Items[1].At = ats[0], ats[1], ats[2]
			checkSeeing(t, p, view{8000000001, 1000000, 30000000, 30000})
			checkSeeing(t, p, view{8000000000, 1000000, 30000000, 30000})
			for _, now := range []int64{7999999999, 7000000000, 6999999999, 0, -1, math.MinInt64} {
				checkUnseen(t, p, view{now, 1000000, 30000000, 30000})
			}
		}
	}
	// A Band without items holds nothing up.
	p := newProbe(t, 0)
	checkSeeing(t, p, view{0, 1000000, 30000000, 30000})
	checkUnseen(t, p, view{-1, 1000000, 30000000, 30000})
}

func TestSeenAtBounds(t *testing.T) {
	const at = 6000000000
	for state := int64(1); state <= 4; state++ {
		p := probeOf(state)
		for _, rate := range []int64{0, 1, 999999999999, 1000000000000} {
			checkSeeing(t, p, view{at, rate, 30000000, 30000})
		}
		for _, rate := range []int64{-1, 1000000000001, math.MinInt64, math.MaxInt64} {
			checkUnseen(t, p, view{at, rate, 30000000, 30000})
		}
		for _, trip := range []int64{1, 2, 999999999999999, 1000000000000000} {
			checkSeeing(t, p, view{at, 1000000, trip, 30000})
		}
		for _, trip := range []int64{0, -1, 1000000000000001, math.MinInt64, math.MaxInt64} {
			checkUnseen(t, p, view{at, 1000000, trip, 30000})
		}
		for _, flight := range []int64{0, 1, 999999999, 1000000000} {
			checkSeeing(t, p, view{at, 1000000, 30000000, flight})
		}
		for _, flight := range []int64{-1, 1000000001, math.MinInt64, math.MaxInt64} {
			checkUnseen(t, p, view{at, 1000000, 30000000, flight})
		}
		checkSeeing(t, p, view{1000000000000000, 1000000, 30000000, 30000})
		for _, now := range []int64{1000000000000001, math.MaxInt64} {
			checkUnseen(t, p, view{now, 1000000, 30000000, 30000})
		}
	}
}

// An item is in the Band for just so long.
func TestBandOfLate(t *testing.T) {
	a, b := impl.Sample{At: 7, Value: 9000000}, impl.Sample{At: 9, Value: 5000000}
	for state := int64(1); state <= 4; state++ {
		p := probeFrom(state, 9, 0, 0)
		p.Band = filterOf(a, b)
		for now, left := range map[int64][]impl.Sample{
			9 + 1:                {a, b},
			holds + 7 - 1:        {a, b},
			holds + 7:            {a, b},
			holds + 7 + 1:        {b},
			holds + 9:            {b},
			holds + 9 + 1:        {},
			1000000000000000 - 1: {},
		} {
			s := impl.Sample{At: now, Value: 1000000}
			next := checkSeeing(t, p, view{now, s.Value, 30000000, 30000})
			if !slices.Equal(next.Band.Items, append(left, s)) {
				t.Fatal(now, next)
			}
		}
		// Of the last one's time, a lesser rate does not come behind.
		next := checkSeeing(t, p, view{9, 4999999, 30000000, 30000})
		if !slices.Equal(next.Band.Items, []impl.Sample{a, b}) {
			t.Fatal(next)
		}
		next = checkSeeing(t, p, view{9, 9000000, 30000000, 30000})
		if !slices.Equal(next.Band.Items, []impl.Sample{{At: 9, Value: 9000000}}) {
			t.Fatal(next)
		}
	}
}

func TestBandToMaxItems(t *testing.T) {
	for state := int64(1); state <= 4; state++ {
		p := probeFrom(state, 0, 0, 0)
		p.Band = falling(100, 1000, 5000000, 7)
		longer := falling(101, 1000, 5000000, 7)
		s := longer.Items[100]
		next := checkSeeing(t, p, view{s.At, s.Value, 30000000, 30000})
		if !slices.Equal(next.Band.Items, longer.Items[1:]) {
			t.Fatal(next)
		}
		checkUnseen(t, withBand(p, longer), view{s.At, s.Value, 30000000, 30000})
	}
}

// In each state but the last, and there until it has stayed long enough.
func TestLeastTrip(t *testing.T) {
	const at = 5000000001
	for state := int64(1); state <= 4; state++ {
		p := probeOf(state)
		p.Top = 1000000 // what is best is more than it: PbStart stays
		renewed := func(trip int64) func(*impl.Probe) {
			return func(q *impl.Probe) {
				q.MinTrip, q.TripAt = trip, at
				if state == 1 {
					q.Top, q.Stale = 3000000, 0
				}
			}
		}
		kept := func(q *impl.Probe) {
			renewed(0)(q)
			q.MinTrip, q.TripAt = p.MinTrip, p.TripAt
		}
		for _, trip := range []int64{19999999, 20000000} {
			checkMoves(t, p, view{at, 1000000, trip, 1000000}, renewed(trip))
		}
		for _, trip := range []int64{20000001, 30000000, 1000000000000000} {
			checkMoves(t, p, view{at, 1000000, trip, 1000000}, kept)
		}
		none := p
		none.MinTrip = 0
		for _, trip := range []int64{20000000, 1000000000000000} {
			if state != 2 {
				checkMoves(t, none, view{at, 1000000, trip, 1000000}, renewed(trip))
			}
			checkSeeing(t, none, view{at, 1000000, trip, 1000000})
		}
		p.MinTrip = 2 // a trip of 1 is one that is less
		checkSeeing(t, p, view{at, 1000000, 1, 1000000})
	}
}

// A PbTrip that has stayed takes what it meets, and goes on.
func TestTripStays(t *testing.T) {
	p := probeOf(4)
	for _, trip := range []int64{20000001, 30000000, 1000000000000000} {
		for _, later := range []int64{0, 1, stay - 1} {
			checkStays(t, p, view{p.Since + later, 1000000, trip, 30000})
		}
		for _, later := range []int64{stay, stay + 1, holds, holds + 1, 999990000000000} {
			now := p.Since + later
			checkMoves(t, p, view{now, 1000000, trip, 30000}, func(q *impl.Probe) {
				q.State, q.Cycle, q.Since, q.MinTrip, q.TripAt = 3, 0, now, trip, now
			})
		}
	}
	for _, trip := range []int64{1, 19999999, 20000000} {
		for _, later := range []int64{0, 1, stay - 1} {
			now := p.Since + later
			checkMoves(t, p, view{now, 1000000, trip, 30000}, func(q *impl.Probe) { q.MinTrip, q.TripAt = trip, now })
		}
		for _, later := range []int64{stay, stay + 1} {
			now := p.Since + later
			checkMoves(t, p, view{now, 1000000, trip, 30000}, func(q *impl.Probe) {
				q.State, q.Cycle, q.Since, q.MinTrip, q.TripAt = 3, 0, now, trip, now
			})
		}
	}
}

// In another state nothing is renewed by having stayed.
func TestOnlyTripRenews(t *testing.T) {
	for state := int64(1); state <= 3; state++ {
		for _, later := range []int64{stay - 1, stay, stay + 1, 2 * stay} {
			p := probeOf(state)
			next := checkSeeing(t, p, view{p.Since + later, 1000000, 20000001, 1000000})
			if next.MinTrip != 20000000 || next.TripAt != p.TripAt {
				t.Fatal(next)
			}
		}
	}
}

// starting has a Band without items: what is seen is the best. Its MinTrip is so
// short that some 2000 bytes in flight are never drained.
func starting(top int64, stale int64) impl.Probe {
	return impl.Probe{State: 1, Cycle: 5, Since: 100, Top: top, Stale: stale, MinTrip: 2, TripAt: 90}
}

func TestStartRises(t *testing.T) {
	for _, c := range []struct{ top, bound int64 }{
		{0, 0}, {1, 1}, {2, 2}, {3, 3}, {4, 5}, {5, 6}, {6, 7}, {7, 8}, {8, 10}, {9, 11}, {1000000, 1250000}, {1000001, 1250001},
		{1000002, 1250002}, {1000003, 1250003}, {799999999999, 999999999998}, {799999999998, 999999999997},
	} {
		for stale := range int64(4) {
			p := starting(c.top, stale)
			for _, best := range []int64{c.bound + 1, c.bound + 2} {
				checkMoves(t, p, view{200, best, 30000000, 1000000000}, func(q *impl.Probe) { q.Top, q.Stale = best, 0 })
			}
			for _, best := range []int64{c.bound, max(c.bound-1, 0), 0} {
				checkMoves(t, p, view{200, best, 30000000, 1000000000}, func(q *impl.Probe) {
					q.Stale = min(stale+1, 3)
					if stale >= 2 {
						q.State, q.Since = 2, 200
					}
				})
			}
		}
	}
	// No rate is above these.
	for _, top := range []int64{800000000000, 800000000001, 999999999999, 1000000000000} {
		checkMoves(t, starting(top, 0), view{200, 1000000000000, 30000000, 1000000000}, func(q *impl.Probe) { q.Stale = 1 })
	}
}

// What is best may have been seen earlier; what is too old is best no more.
func TestStartByTheBest(t *testing.T) {
	p := starting(1000000, 1)
	p.Band = filterOf(impl.Sample{At: 50, Value: 2000000}, impl.Sample{At: 60, Value: 900000})
	checkMoves(t, p, view{200, 5, 30000000, 1000000}, func(q *impl.Probe) { q.Top, q.Stale = 2000000, 0 })
	p.TripAt, p.Since = holds+20, holds+20
	checkMoves(t, p, view{holds + 50, 5, 30000000, 1000000}, func(q *impl.Probe) { q.Top, q.Stale = 2000000, 0 })
	checkMoves(t, p, view{holds + 51, 5, 30000000, 1000000}, func(q *impl.Probe) { q.Stale = 2 })
}

func TestStartComesToItsEnd(t *testing.T) {
	p := newProbe(t, 0)
	p = checkMoves(t, p, view{1, 1000000, 20000000, 0}, func(q *impl.Probe) { q.Top, q.MinTrip, q.TripAt = 1000000, 20000000, 1 })
	p = checkMoves(t, p, view{2, 1250000, 30000000, 0}, func(q *impl.Probe) { q.Stale = 1 })
	p = checkMoves(t, p, view{3, 1250000, 30000000, 0}, func(q *impl.Probe) { q.Stale = 2 })
	// It is not in a row: one that rises makes the count begin anew.
	p = checkMoves(t, p, view{4, 1250001, 30000000, 0}, func(q *impl.Probe) { q.Top, q.Stale = 1250001, 0 })
	p = checkMoves(t, p, view{5, 0, 30000000, 0}, func(q *impl.Probe) { q.Stale = 1 })
	p = checkMoves(t, p, view{6, 0, 30000000, 0}, func(q *impl.Probe) { q.Stale = 2 })
	// 25000.02 bytes go in 20 milliseconds.
	drained := func(q *impl.Probe) { q.State, q.Stale, q.Since = 2, 3, 7 }
	checkMoves(t, p, view{7, 0, 30000000, 25001}, drained)
	checkMoves(t, p, view{7, 0, 30000000, 1000000000}, drained)
	atOnce := func(q *impl.Probe) { q.State, q.Stale, q.Cycle, q.Since = 3, 3, 0, 7 }
	checkMoves(t, p, view{7, 0, 30000000, 25000}, atOnce)
	checkMoves(t, p, view{7, 0, 30000000, 24999}, atOnce)
	checkMoves(t, p, view{7, 0, 30000000, 0}, atOnce)
	checkGain(t, observe(p, view{7, 0, 30000000, 25000}), 125)
}

// While it starts it does not drain, however little is in flight.
func TestStartDoesNotDrain(t *testing.T) {
	for stale := range int64(2) {
		checkMoves(t, starting(1000000, stale), view{200, 1000000, 30000000, 0}, func(q *impl.Probe) { q.Stale = stale + 1 })
	}
	for stale := range int64(4) {
		checkMoves(t, starting(1000, stale), view{200, 1000000, 30000000, 0}, func(q *impl.Probe) { q.Top, q.Stale = 1000000, 0 })
	}
}

// The room that is drained to is by the rate and the round trip of just now.
func TestDrainedByFlight(t *testing.T) {
	for _, c := range []struct{ best, minTrip, trip, rate, bytes int64 }{
		{3000000, 20000000, 30000000, 1000000, 60000},
		{3000000, 20000000, 10000000, 1000000, 30000},
		{3000000, 20000000, 30000000, 4000000, 80000},
		{3000000, 20000000, 10000000, 4000000, 40000},
		{3000000, 0, 30000000, 1000000, 90000},
		{3333333, 20000000, 30000000, 0, 66666},
		{0, 20000000, 30000000, 0, 0},
		{1, 999999999, 1000000000, 0, 0},
		{1000000000000, 1000000, 2000000, 0, 1000000000},
		{1000000000000, 1000000000000000, 1000000000000000, 0, 1000000000000000000},
	} {
		p := probeFrom(2, 100, c.best, c.minTrip)
		p.Cycle, p.Stale = 6, 2
		renews := c.minTrip == 0 || c.trip <= c.minTrip
		for _, flight := range []int64{0, c.bytes - 1, c.bytes, c.bytes + 1, 1000000000} {
			if !isOf(flight, 1000000000) {
				continue
			}
			checkMoves(t, p, view{200, c.rate, c.trip, flight}, func(q *impl.Probe) {
				if renews {
					q.MinTrip, q.TripAt = c.trip, 200
				}
				if flight <= c.bytes {
					q.State, q.Cycle, q.Since = 3, 0, 200
				}
			})
		}
	}
}

// However long it is since the drain began, the cycle begins at 0.
func TestDrainedAtCycleNought(t *testing.T) {
	for _, later := range []int64{0, 1, 19999999, 20000000, 20000001, stay, holds - 1} {
		for _, cycle := range []int64{0, 1, 4, 7} {
			p := probeFrom(2, 5, 3000000, 20000000)
			p.Cycle = cycle
			checkMoves(t, p, view{5 + later, 1000000, 30000000, 60000}, func(q *impl.Probe) {
				q.State, q.Cycle, q.Since = 3, 0, 5+later
			})
			p.State, p.Stale, p.Top = 1, 2, 3000000
			checkMoves(t, p, view{5 + later, 1000000, 30000000, 60000}, func(q *impl.Probe) {
				q.State, q.Stale, q.Cycle, q.Since = 3, 3, 0, 5+later
			})
		}
	}
}

func TestCycles(t *testing.T) {
	for cycle := range int64(8) {
		p := probeFrom(3, 5, 3000000, 20000000)
		p.Cycle = cycle
		for _, later := range []int64{0, 1, 19999998, 19999999} {
			checkStays(t, p, view{5 + later, 1000000, 30000000, 1000000})
		}
		for _, later := range []int64{20000000, 20000001, 40000000, stay, holds - 1} {
			checkMoves(t, p, view{5 + later, 1000000, 30000000, 1000000}, func(q *impl.Probe) {
				q.Cycle, q.Since = (cycle+1)%8, 5+later
			})
		}
	}
	for _, c := range [][2]int64{{6, 7}, {7, 0}, {0, 1}} {
		p := probeFrom(3, 5, 3000000, 20000000)
		p.Cycle = c[0]
		checkMoves(t, p, view{20000005, 1000000, 30000000, 0}, func(q *impl.Probe) { q.Cycle, q.Since = c[1], 20000005 })
		checkStays(t, p, view{20000004, 1000000, 30000000, 0})
	}
}

// A round trip that is seen now is what the cycle is held against.
func TestCyclesByTheTripOfNow(t *testing.T) {
	p := probeFrom(3, 5, 3000000, 20000000)
	p.Cycle = 6
	checkMoves(t, p, view{1004, 1000000, 1000, 0}, func(q *impl.Probe) { q.MinTrip, q.TripAt = 1000, 1004 })
	checkMoves(t, p, view{1005, 1000000, 1000, 0}, func(q *impl.Probe) {
		q.MinTrip, q.TripAt, q.Cycle, q.Since = 1000, 1005, 7, 1005
	})
	p.MinTrip = 0
	checkMoves(t, p, view{1004, 1000000, 1000, 0}, func(q *impl.Probe) { q.MinTrip, q.TripAt = 1000, 1004 })
	checkMoves(t, p, view{1006, 1000000, 1000, 0}, func(q *impl.Probe) {
		q.MinTrip, q.TripAt, q.Cycle, q.Since = 1000, 1006, 7, 1006
	})
	// At Since itself no time has gone by, and a trip takes at least 1.
	checkMoves(t, p, view{5, 1000000, 1, 0}, func(q *impl.Probe) { q.MinTrip, q.TripAt = 1, 5 })
}

// old is a Probe whose round trip was met at 1000, and which is in its state
// since just ahead of the time at which that is too old.
func old(state int64) impl.Probe {
	p := probeOf(state)
	p.TripAt, p.Since = 1000, holds+1000-5
	p.Band.Items[0].At = 2000
	p.Top = 2900000 // PbStart rises no more
	return p
}

func TestTripIsTooOld(t *testing.T) {
	for _, now := range []int64{holds + 999, holds + 1000, holds + 1001} {
		isOld := now > holds+999
		kept := func(change func(*impl.Probe)) func(*impl.Probe) {
			return func(q *impl.Probe) {
				change(q)
				if isOld {
					q.State, q.Since = 4, now
				}
			}
		}
		v := view{now, 1000000, 20000001, 60001}
		checkMoves(t, old(1), v, kept(func(q *impl.Probe) { q.Stale = 2 }))
		checkMoves(t, old(2), v, kept(func(*impl.Probe) {}))
		checkMoves(t, old(3), v, kept(func(*impl.Probe) {}))
		// One that is in it stays as it is.
		checkStays(t, old(4), v)
		v.flight = 60000
		checkMoves(t, old(2), v, kept(func(q *impl.Probe) { q.State, q.Cycle, q.Since = 3, 0, now }))
	}
}

// A round trip that is met again is not too old.
func TestTripIsMetAgain(t *testing.T) {
	for _, now := range []int64{holds + 999, holds + 1000, holds + 1001} {
		for _, trip := range []int64{20000000, 19999999} {
			met := func(change func(*impl.Probe)) func(*impl.Probe) {
				return func(q *impl.Probe) {
					change(q)
					q.MinTrip, q.TripAt = trip, now
				}
			}
			v := view{now, 1000000, trip, 60001}
			checkMoves(t, old(1), v, met(func(q *impl.Probe) { q.Stale = 2 }))
			checkMoves(t, old(2), v, met(func(*impl.Probe) {}))
			checkMoves(t, old(3), v, met(func(*impl.Probe) {}))
			checkMoves(t, old(4), v, met(func(*impl.Probe) {}))
		}
		for state := int64(1); state <= 3; state++ {
			none := old(state)
			none.MinTrip = 0
			next := checkSeeing(t, none, view{now, 1000000, 1000000000000000, 1000000000})
			if next.State == 4 || next.TripAt != now {
				t.Fatal(next)
			}
		}
	}
}

// More than one thing happens at a time, in the chapter's order.
func TestAllAtOnce(t *testing.T) {
	const now = holds + 1000
	p := old(1)
	p.Stale = 2
	// To PbDrain, to PbCruise, to PbTrip.
	checkMoves(t, p, view{now, 1000000, 20000001, 60000}, func(q *impl.Probe) { q.State, q.Stale, q.Cycle, q.Since = 4, 3, 0, now })
	// To PbDrain, to PbTrip.
	checkMoves(t, p, view{now, 1000000, 20000001, 60001}, func(q *impl.Probe) { q.State, q.Stale, q.Since = 4, 3, now })
	// It rises, and to PbTrip.
	checkMoves(t, p, view{now, 3625001, 20000001, 60000}, func(q *impl.Probe) {
		q.State, q.Stale, q.Top, q.Since = 4, 0, 3625001, now
	})
	// The next cycle, and to PbTrip.
	for cycle := range int64(8) {
		p = old(3)
		p.Cycle, p.Since = cycle, now-20000000
		checkMoves(t, p, view{now, 1000000, 20000001, 60001}, func(q *impl.Probe) {
			q.State, q.Cycle, q.Since = 4, (cycle+1)%8, now
		})
	}
}

// What comes to PbTrip in a call stays there in it, however long it was in what
// it comes from, and renews nothing.
func TestTripThatIsEntered(t *testing.T) {
	for state := int64(1); state <= 3; state++ {
		for _, later := range []int64{stay - 1, stay, stay + 1, 5000000000} {
			p := old(state)
			p.Since = holds + 1000 - later
			next := checkSeeing(t, p, view{holds + 1000, 1000000, 20000001, 60001})
			if next.State != 4 || next.Since != holds+1000 || next.MinTrip != 20000000 || next.TripAt != 1000 {
				t.Fatal(next)
			}
			checkCap(t, next, 6000)
			checkGain(t, next, 100)
			again := checkStays(t, next, view{holds + 1000, 1000000, 20000001, 60001})
			checkStays(t, again, view{holds + 1000 + stay - 1, 1000000, 20000001, 60001})
			checkMoves(t, again, view{holds + 1000 + stay, 1000000, 20000001, 60001}, func(q *impl.Probe) {
				q.State, q.Cycle, q.Since, q.MinTrip, q.TripAt = 3, 0, holds+1000+stay, 20000001, holds+1000+stay
			})
		}
	}
}

// One life by hand: a way that bears 1000000 bytes in a second, and whose round
// trips are of 20 milliseconds at first, and of 21 later on.
func TestOneLife(t *testing.T) {
	const ms = 1000000
	p := newProbe(t, 0)
	now := int64(0)
	see := func(trip int64, flight int64, state int64, cycle int64) {
		t.Helper()
		now += 20 * ms
		p = checkSeeing(t, p, view{now, 1000000, trip, flight})
		if p.State != state || p.Cycle != cycle {
			t.Fatal(now, p)
		}
	}
	see(20*ms, 0, 1, 0)
	checkPace(t, p, 2890000)
	checkCap(t, p, 40000)
	see(21*ms, 40000, 1, 0)
	see(21*ms, 40000, 1, 0)
	see(21*ms, 40000, 2, 0)
	checkPace(t, p, 350000)
	see(21*ms, 30000, 2, 0)
	see(21*ms, 20000, 3, 0)
	for k := int64(1); now < holds; k++ {
		checkPace(t, p, []int64{1250000, 750000, 1000000, 1000000, 1000000, 1000000, 1000000, 1000000}[p.Cycle])
		see(21*ms, 25000, 3, k%8)
	}
	// From 20 milliseconds on it is 10 seconds, here: the cycle goes on once more.
	cycle := (p.Cycle + 1) % 8
	see(21*ms, 25000, 4, cycle)
	checkPace(t, p, 1000000)
	checkCap(t, p, 6000)
	for range 9 {
		see(21*ms, 6000, 4, cycle)
	}
	see(21*ms, 6000, 3, 0)
	checkCap(t, p, 42000)
	if p.MinTrip != 21*ms || p.TripAt != now || p.Since != now {
		t.Fatal(p)
	}
}

// A probeRow goes on from NewProbe, and counts what it meets.
type probeRow struct {
	t     *testing.T
	state uint64
	probe impl.Probe
	met   map[string]int
}

// beside is a number or one of those beside it, of a list that is asked at random.
func beside(state *uint64, list ...int64) int64 {
	return list[mixed(state)%int64(len(list))] + mixed(state)%3 - 1
}

func bounded(x int64, low int64, high int64) int64 { return min(max(x, low), high) }

// next is a view near to one of the times, rates and sizes that matter now.
func (r *probeRow) next() view {
	p, s := r.probe, &r.state
	from, best := earliest(p), bestByWords(p.Band)
	v := view{
		now:  from + mixed(s)%[]int64{2, 5000000, 60000000, 3000000000}[mixed(s)%4],
		rate: beside(s, best, 5*p.Top/4, p.Top, 1000000, mixed(s)%5000000),
		trip: beside(s, p.MinTrip, 20000000, 20000000+mixed(s)%10000000, p.MinTrip+1),
	}
	if mixed(s)%3 > 0 {
		v.now = beside(s, p.Since+p.MinTrip, p.Since+stay, p.TripAt+holds, from+1)
	}
	if mixed(s)%300 == 0 {
		v.now = from + holds + mixed(s)%(3*holds)
	}
	v.now = bounded(v.now, from, 1000000000000000)
	v.rate = bounded(v.rate, 0, 1000000000000)
	v.trip = bounded(v.trip, 1, 1000000000000000)
	v.flight = bounded(beside(s, wantBytes(best, p.MinTrip), wantBytes(best, v.trip), mixed(s)%100000), 0, 1000000000)
	return v
}

// seen counts the way from one state to another, and each cycle.
func (r *probeRow) seen(v view) {
	before := r.probe
	r.probe = checkSeeing(r.t, before, v)
	names := []string{"", "start", "drain", "cruise", "trip"}
	r.met[names[before.State]+" to "+names[r.probe.State]]++
	if r.probe.State == 3 {
		r.met["cycle "+string(rune('0'+r.probe.Cycle))]++
	}
	if before.State == 1 {
		r.met["stale "+string(rune('0'+r.probe.Stale))]++
	}
	for name, is := range map[string]bool{
		"just a trip behind":     before.State == 3 && v.now-before.Since == r.probe.MinTrip,
		"one less than a trip":   before.State == 3 && v.now-before.Since == r.probe.MinTrip-1,
		"just stayed":            before.State == 4 && v.now-before.Since == stay,
		"one less than stayed":   before.State == 4 && v.now-before.Since == stay-1,
		"just too old":           before.State < 4 && v.now-r.probe.TripAt == holds,
		"one less than too old":  before.State < 4 && v.now-r.probe.TripAt == holds-1,
		"just drained":           before.State == 2 && v.flight == wantBytes(bestByWords(r.probe.Band), r.probe.MinTrip),
		"one more than drained":  before.State == 2 && v.flight == wantBytes(bestByWords(r.probe.Band), r.probe.MinTrip)+1,
		"just the least trip":    v.trip == before.MinTrip,
		"one more than the trip": v.trip == before.MinTrip+1,
		"at the same time":       v.now == earliest(before),
	} {
		if is {
			r.met[name]++
		}
	}
}

func TestProbeRows(t *testing.T) {
	met := map[string]int{}
	for k := range 300 {
		state := uint64(3000 + k)
		r := probeRow{t: t, state: state, probe: newProbe(t, mixed(&state)%1000000000), met: met}
		for range 200 {
			r.seen(r.next())
		}
	}
	for _, name := range []string{
		"start to start", "start to drain", "start to cruise", "start to trip", "drain to drain", "drain to cruise", "drain to trip",
		"cruise to cruise", "cruise to trip", "trip to trip", "trip to cruise",
		"cycle 0", "cycle 1", "cycle 2", "cycle 3", "cycle 4", "cycle 5", "cycle 6", "cycle 7",
		"stale 0", "stale 1", "stale 2", "stale 3",
		"just a trip behind", "one less than a trip", "just stayed", "one less than stayed", "just too old", "one less than too old",
		"just drained", "one more than drained", "just the least trip", "one more than the trip", "at the same time",
	} {
		if met[name] < 10 {
			t.Errorf("%s: met %d times", name, met[name])
		}
	}
	for _, name := range []string{"drain to start", "cruise to start", "cruise to drain", "trip to start", "trip to drain"} {
		if met[name] > 0 {
			t.Errorf("%s: met %d times", name, met[name])
		}
	}
}

// A row up to the last time that there is, and the greatest rate.
func TestProbeRowAtBounds(t *testing.T) {
	p := newProbe(t, 1000000000000000-3*holds)
	state := uint64(122)
	for step := range int64(60) {
		now := min(1000000000000000-3*holds+step*holds/16, 1000000000000000)
		rate := 1000000000000 - mixed(&state)%3
		p = checkSeeing(t, p, view{now, rate, 1000000000000000 - mixed(&state)%3, 1000000000 - mixed(&state)%3})
	}
	for range 20 {
		p = checkSeeing(t, p, view{1000000000000000, mixed(&state) % 1000000000001, 1 + mixed(&state)%1000, mixed(&state) % 1000000001})
	}
	checkUnseen(t, p, view{1000000000000001, 1000000, 1000, 0})
}

// anyBand is right for the greatest, and of any count of items up to the last time.
func anyBand(state *uint64, upTo int64) impl.Filter {
	n := []int64{0, 1, 2, 5, 99, 100}[mixed(state)%6]
	at, value := upTo, mixed(state)%1000
	var items []impl.Sample
	for range n {
		if at < 0 || value > 1000000000000 {
			break
		}
		items = append(items, impl.Sample{At: at, Value: value})
		at -= 1 + mixed(state)%[]int64{3, 1000000, holds}[mixed(state)%3]
		value += 1 + mixed(state)%[]int64{3, 100000, 30000000000}[mixed(state)%3]
	}
	slices.Reverse(items)
	return impl.Filter{Items: items}
}

// anyProbe is right, but for one number at times that is a little out of range.
func anyProbe(state *uint64) impl.Probe {
	at := anyTime(state)
	p := impl.Probe{
		State: 1 + mixed(state)%4, Cycle: mixed(state) % 8, Since: at, Stale: mixed(state) % 4,
		Top: mixed(state) % 1000000000001, MinTrip: anyTime(state), TripAt: at, Band: anyBand(state, at),
	}
	if mixed(state)%2 == 0 {
		p.MinTrip = mixed(state) % 100000000
	}
	p.Since = max(p.Since-mixed(state)%[]int64{1, 2 * stay, 2 * holds}[mixed(state)%3], 0)
	p.TripAt = max(p.TripAt-mixed(state)%[]int64{1, 2 * stay, 2 * holds}[mixed(state)%3], 0)
	if mixed(state)%3 == 0 {
		p.Top = min(4*bestByWords(p.Band)/5+mixed(state)%5, 1000000000000)
	}
	fields := probeFields()
	f := fields[mixed(state)%int64(len(fields))]
	switch mixed(state) % 6 {
	case 0:
		p = f.with(p, f.low-mixed(state)%2)
	case 1:
		p = f.with(p, f.high+mixed(state)%2)
	}
	return p
}

func TestMixedProbes(t *testing.T) {
	state := uint64(123)
	right, wrong := 0, 0
	for range 20000 {
		p := anyProbe(&state)
		checkProbe(t, p, view{anyTime(&state) + mixed(&state)%5 - 2, mixed(&state) % 1000000000001, anyTime(&state), anyWindow(&state, 0)})
		if !wantProbeOk(p) {
			wrong++
			checkNoProbe(t, p)
			continue
		}
		right++
		checkPromised(t, p)
		r := probeRow{t: t, state: state, probe: p, met: map[string]int{}}
		for range 4 {
			r.seen(r.next())
		}
		state = r.state
	}
	if right < 5000 || wrong < 1000 {
		t.Fatal("too few of a kind were met:", right, wrong)
	}
}

func TestProbesAtEveryArgument(t *testing.T) {
	for state := int64(1); state <= 4; state++ {
		p := probeOf(state)
		for _, a := range edges() {
			for _, b := range edges() {
				checkProbe(t, p, view{6000000000, 1000000, a, b})
				checkProbe(t, p, view{6000000000, a, 30000000, b})
				checkProbe(t, p, view{a, b, 30000000, 30000})
				checkProbe(t, p, view{a, 1000000, b, 30000})
				checkProbe(t, p, view{a, 1000000, 30000000, b})
				for _, f := range probeFields() {
					checkProbe(t, f.with(p, a), view{b, 1000000, 30000000, 30000})
				}
				band := filterOf(impl.Sample{At: a, Value: b})
				checkProbe(t, withBand(p, band), view{1000000000000000, 1000000, 30000000, 30000})
			}
		}
	}
}

// checkProbeMemory writes over the argument, and then over all of the answer.
func checkProbeMemory(t *testing.T, p impl.Probe, v view) {
	t.Helper()
	band, whole := withRoom(p.Band.Items)
	roomy := withBand(p, band)
	before := slices.Clone(whole)
	impl.ProbeOk(roomy)
	impl.Gain(roomy)
	impl.Pace(roomy)
	impl.Cap(roomy)
	got, other := observe(roomy, v), observe(roomy, v)
	if !slices.Equal(whole, before) {
		t.Fatalf("Observe(%+v, %+v) wrote into its argument: %v", p, v, whole)
	}
	want := wantObserve(copiedProbe(p), v)
	clear(whole)
	if !isSameProbe(got, want) {
		t.Fatalf("Observe(%+v, %+v) hangs on its argument: %+v", p, v, got)
	}
	spoil(got.Band.Items, impl.Sample{At: -5, Value: -5})
	if slices.ContainsFunc(whole, func(x impl.Sample) bool { return x != impl.Sample{} }) {
		t.Fatalf("Observe(%+v, %+v) shares memory with its argument", p, v)
	}
	if !isSameProbe(other, want) {
		t.Fatalf("two answers of Observe(%+v, %+v) share memory", p, v)
	}
}

func TestProbeMemory(t *testing.T) {
	for state := int64(0); state <= 5; state++ {
		for n := range 7 {
			p := withBand(probeOf(state), falling(n, 4999999990, 100, 10))
			for _, now := range []int64{4999999999, 5000000000, 5000000001, 20000000000} {
				for value := int64(0); value <= 120; value += 5 {
					checkProbeMemory(t, p, view{now, value, 30000000, 0})
				}
			}
			// At the last item's time the rate need not come behind.
			p.Since = 4000000000
			for value := int64(0); value <= 120; value += 5 {
				checkProbeMemory(t, p, view{max(lastAt(p.Band), 4000000000), value, 30000000, 0})
			}
		}
		for _, n := range []int{99, 100, 101} {
			p := withBand(probeOf(state), falling(n, 4999999000, 5000, 10))
			checkProbeMemory(t, p, view{5000000000, 1, 30000000, 0})
			checkProbeMemory(t, p, view{5000000000, 4500, 30000000, 0})
			checkProbeMemory(t, p, view{5000000000, 9000, 30000000, 0})
		}
	}
}

// Two Probes that were made of one have nothing to do with each other.
func TestProbesOfOne(t *testing.T) {
	p := newProbe(t, 0)
	for i := range int64(150) {
		a := observe(p, view{10 * i, 100000 - 10*i, 30000000, 1000000})
		wantA := copiedProbe(a)
		b := observe(p, view{10*i + 1, 100000 - 10*i - 5, 20000000, 1000000})
		wantB := copiedProbe(b)
		observe(a, view{10*i + 2, 1000000, 1, 0})
		observe(b, view{10*i + 2, 0, 1, 0})
		if !isSameProbe(a, wantA) || !isSameProbe(b, wantB) {
			t.Fatal(a, b)
		}
		p = a
	}
	if len(p.Band.Items) != 100 {
		t.Fatal(p)
	}
}

// What one call answers hangs on no other call, however many there are at once.
func TestProbesAtOnce(t *testing.T) {
	var workers sync.WaitGroup
	wrong := make([]int, 8)
	shared := probeOf(1)
	for k := range wrong {
		workers.Go(func() {
			state := uint64(124 + k)
			p := shared
			for range 1000 {
				r := probeRow{state: state, probe: p}
				v := r.next()
				state = r.state
				next := observe(p, v)
				if !isSameProbe(next, wantObserve(p, v)) || impl.Cap(next) != wantCap(next) || impl.Pace(next) != wantPace(next) {
					wrong[k]++
				}
				p = next
			}
		})
	}
	workers.Wait()
	if slices.Max(wrong) > 0 {
		t.Fatal(wrong)
	}
}
