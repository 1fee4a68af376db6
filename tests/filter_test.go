package tests

import (
	"math"
	"slices"
	"testing"

	"loop.example/g00147/impl"
)

func filterOf(list ...impl.Sample) impl.Filter { return impl.Filter{Items: list} }

// falling is right for the greatest; with a step below 0 it rises, and is right for the least.
func falling(n int, firstAt int64, firstValue int64, step int64) impl.Filter {
	var f impl.Filter
	for i := range int64(n) {
		f.Items = append(f.Items, impl.Sample{At: firstAt + i, Value: firstValue - i*step})
	}
	return f
}

func isSampleByWords(s impl.Sample) bool {
	return s.At >= 0 && s.At <= 1e15 && s.Value >= 0 && s.Value <= 1e12
}

func wantFilterOk(f impl.Filter, most bool) bool {
	for i, s := range f.Items {
		if !isSampleByWords(s) {
			return false
		}
		for _, behind := range f.Items[i+1:] {
			if behind.At <= s.At || most && behind.Value >= s.Value || !most && behind.Value <= s.Value {
				return false
			}
		}
	}
	return len(f.Items) <= 100
}

// wantPush looks at every item by itself, wherever it stands.
func wantPush(f impl.Filter, s impl.Sample, window int64, most bool) (impl.Filter, bool) {
	if !wantFilterOk(f, most) || !isSampleByWords(s) || window < 0 || window > 1e15 {
		return impl.Filter{}, false
	}
	var unbeaten []impl.Sample
	for _, x := range f.Items {
		if x.At > s.At {
			return impl.Filter{}, false
		}
		if most && x.Value > s.Value || !most && x.Value < s.Value {
			unbeaten = append(unbeaten, x)
		}
	}
	if !slices.ContainsFunc(unbeaten, func(x impl.Sample) bool { return x.At == s.At }) {
		unbeaten = append(unbeaten, s)
	}
	var left []impl.Sample
	for i, x := range unbeaten {
		if x.At >= s.At-window || i == len(unbeaten)-1 {
			left = append(left, x)
		}
	}
	return impl.Filter{Items: left[max(0, len(left)-100):]}, true
}

// bestWithin counts through all samples; the last one's time is now.
func bestWithin(samples []impl.Sample, window int64, most bool) impl.Sample {
	now := samples[len(samples)-1].At
	best := impl.Sample{At: -1}
	for _, s := range samples {
		if s.At < now-window {
			continue
		}
		// Of equal ones it is the newest that is kept.
		if best.At == -1 || s.Value == best.Value || (s.Value > best.Value) == most {
			best = s
		}
	}
	return best
}

func checkFilterOk(t *testing.T, f impl.Filter, most bool, want bool) {
	t.Helper()
	if ok := impl.FilterOk(f, most); ok != want {
		t.Fatalf("FilterOk(%v, %v) = %v, want %v", f, most, ok, want)
	}
}

func checkPush(t *testing.T, f impl.Filter, s impl.Sample, window int64, most bool, want impl.Filter) impl.Filter {
	t.Helper()
	got, ok := impl.Push(f, s, window, most)
	if !ok || !slices.Equal(got.Items, want.Items) {
		t.Fatalf("Push(%v, %v, %d, %v) = %v, %v, want %v, true", f, s, window, most, got, ok, want)
	}
	return got
}

func checkNoPush(t *testing.T, f impl.Filter, s impl.Sample, window int64, most bool) {
	t.Helper()
	if got, ok := impl.Push(f, s, window, most); ok || len(got.Items) > 0 {
		t.Fatalf("Push(%v, %v, %d, %v) = %v, %v, want the zero Filter, false", f, s, window, most, got, ok)
	}
}

func checkBest(t *testing.T, f impl.Filter, want int64) {
	t.Helper()
	if best := impl.Best(f); best != want {
		t.Fatalf("Best(%v) = %d, want %d", f, best, want)
	}
}

func checkSince(t *testing.T, f impl.Filter, at int64, want int64) {
	t.Helper()
	if ns := impl.Since(f, at); ns != want {
		t.Fatalf("Since(%v, %d) = %d, want %d", f, at, ns, want)
	}
}

func TestFilterLimit(t *testing.T) {
	if impl.MaxItems != 100 {
		t.Fatal(impl.MaxItems)
	}
}

// checkPromise pushes the samples one by one, all with one window.
func checkPromise(t *testing.T, samples []impl.Sample, window int64, most bool) {
	t.Helper()
	var f impl.Filter
	for i, s := range samples {
		want, _ := wantPush(f, s, window, most)
		f = checkPush(t, f, s, window, most, want)
		checkFilterOk(t, f, most, true)
		best := bestWithin(samples[:i+1], window, most)
		checkBest(t, f, best.Value)
		checkSince(t, f, s.At, s.At-best.At)
		checkSince(t, f, impl.MaxTime, impl.MaxTime-best.At)
	}
}

func checkPromiseForBoth(t *testing.T, samples []impl.Sample) {
	t.Helper()
	for _, window := range []int64{0, 1, 2, 7, 20, 99, 100, 1000, impl.MaxTime - 1, impl.MaxTime} {
		checkPromise(t, samples, window, true)
		checkPromise(t, samples, window, false)
	}
}

func TestBestOfRisingFallingStaying(t *testing.T) {
	var rising, sinking, staying, atOnce, wave, crest []impl.Sample
	for i := range int64(impl.MaxItems) {
		rising = append(rising, impl.Sample{At: 3 * i, Value: 10 * i})
		sinking = append(sinking, impl.Sample{At: 3 * i, Value: 2000 - 10*i})
		staying = append(staying, impl.Sample{At: 3 * i, Value: 7})
		atOnce = append(atOnce, impl.Sample{At: 5, Value: 1 + i*i%17})
		wave = append(wave, impl.Sample{At: i * i / 3, Value: 50 + (i%9-4)*(i%9-4)})
		crest = append(crest, impl.Sample{At: i, Value: i * (99 - i)})
	}
	for _, samples := range [][]impl.Sample{rising, sinking, staying, atOnce, wave, crest} {
		checkPromiseForBoth(t, samples)
	}
}

func TestBestOfSamplesAtBounds(t *testing.T) {
	checkPromiseForBoth(t, []impl.Sample{
		{At: 0, Value: 0}, {At: 0, Value: impl.MaxRate}, {At: 0, Value: 0},
		{At: 1, Value: impl.MaxRate}, {At: 1, Value: impl.MaxRate - 1}, {At: 2, Value: 1}, {At: 2, Value: 0},
		{At: impl.MaxTime - 1, Value: 5}, {At: impl.MaxTime - 1, Value: impl.MaxRate},
		{At: impl.MaxTime, Value: 0}, {At: impl.MaxTime, Value: impl.MaxRate}, {At: impl.MaxTime, Value: 1},
	})
}

func TestBestOfMixed(t *testing.T) {
	state := uint64(8)
	for range 2000 {
		spread, stride := 1+mixed(&state)%40, 1+mixed(&state)%6
		at := mixed(&state) % 1000
		var samples []impl.Sample
		for range 1 + mixed(&state)%impl.MaxItems {
			at += mixed(&state) % stride
			samples = append(samples, impl.Sample{At: at, Value: mixed(&state) % spread})
		}
		window := mixed(&state) % 60
		checkPromise(t, samples, window, true)
		checkPromise(t, samples, window, false)
	}
}

func TestFilterOk(t *testing.T) {
	falls := filterOf(impl.Sample{At: 3, Value: 9}, impl.Sample{At: 4, Value: 6}, impl.Sample{At: 9, Value: 5})
	rises := filterOf(impl.Sample{At: 3, Value: 5}, impl.Sample{At: 4, Value: 6}, impl.Sample{At: 9, Value: 9})
	checkFilterOk(t, falls, true, true)
	checkFilterOk(t, falls, false, false)
	checkFilterOk(t, rises, false, true)
	checkFilterOk(t, rises, true, false)
	for _, most := range []bool{true, false} {
		checkFilterOk(t, impl.Filter{}, most, true)
		checkFilterOk(t, impl.Filter{Items: []impl.Sample{}}, most, true)
		checkFilterOk(t, filterOf(impl.Sample{}), most, true)
		checkFilterOk(t, filterOf(impl.Sample{At: impl.MaxTime, Value: impl.MaxRate}), most, true)
	}
	checkFilterOk(t, filterOf(impl.Sample{At: 0, Value: impl.MaxRate}, impl.Sample{At: impl.MaxTime, Value: 0}), true, true)
	checkFilterOk(t, filterOf(impl.Sample{At: 0, Value: 0}, impl.Sample{At: impl.MaxTime, Value: impl.MaxRate}), false, true)
}

func TestFilterOkWhereItDoesNotRiseOrFall(t *testing.T) {
	// In each the second item stands wrong to the first, or the third to the second.
	wrongForGreatest := [][3]impl.Sample{
		{{At: 3, Value: 9}, {At: 3, Value: 6}, {At: 9, Value: 5}},
		{{At: 3, Value: 9}, {At: 2, Value: 6}, {At: 9, Value: 5}},
		{{At: 3, Value: 9}, {At: 4, Value: 9}, {At: 9, Value: 5}},
		{{At: 3, Value: 9}, {At: 4, Value: 10}, {At: 9, Value: 5}},
		{{At: 3, Value: 9}, {At: 4, Value: 6}, {At: 4, Value: 5}},
		{{At: 3, Value: 9}, {At: 4, Value: 6}, {At: 3, Value: 5}},
		{{At: 3, Value: 9}, {At: 4, Value: 6}, {At: 9, Value: 6}},
		{{At: 3, Value: 9}, {At: 4, Value: 6}, {At: 9, Value: 7}},
	}
	for _, list := range wrongForGreatest {
		checkFilterOk(t, filterOf(list[:]...), true, false)
		checkNoPush(t, filterOf(list[:]...), impl.Sample{At: 20, Value: 3}, 5, true)
		for i := range list {
			list[i].Value = 100 - list[i].Value
		}
		checkFilterOk(t, filterOf(list[:]...), false, false)
		checkNoPush(t, filterOf(list[:]...), impl.Sample{At: 20, Value: 97}, 5, false)
	}
}

func TestFilterOkOutOfRange(t *testing.T) {
	wrong := []impl.Sample{
		{At: -1, Value: 5}, {At: impl.MaxTime + 1, Value: 5}, {At: 5, Value: -1}, {At: 5, Value: impl.MaxRate + 1},
		{At: math.MinInt64, Value: 5}, {At: math.MaxInt64, Value: 5}, {At: 5, Value: math.MinInt64}, {At: 5, Value: math.MaxInt64},
	}
	for _, s := range wrong {
		for _, most := range []bool{true, false} {
			checkFilterOk(t, filterOf(s), most, false)
			checkNoPush(t, filterOf(s), impl.Sample{At: impl.MaxTime, Value: 5}, 5, most)
			checkNoPush(t, impl.Filter{}, s, 5, most)
			checkNoPush(t, filterOf(impl.Sample{At: 0, Value: 5}), s, 5, most)
		}
	}
	// Out of range as the last one of a list that rises and falls as it must.
	checkFilterOk(t, filterOf(impl.Sample{At: 1, Value: 5}, impl.Sample{At: 2, Value: -1}), true, false)
	checkFilterOk(t, filterOf(impl.Sample{At: 1, Value: 5}, impl.Sample{At: impl.MaxTime + 1, Value: 4}), true, false)
	checkFilterOk(t, filterOf(impl.Sample{At: 1, Value: 5}, impl.Sample{At: 2, Value: impl.MaxRate + 1}), false, false)
	checkFilterOk(t, filterOf(impl.Sample{At: -1, Value: 5}, impl.Sample{At: 2, Value: 6}), false, false)
}

func TestFilterOkAtMaxItems(t *testing.T) {
	const items = impl.MaxItems
	checkFilterOk(t, falling(items, 0, 1000, 1), true, true)
	checkFilterOk(t, falling(items+1, 0, 1000, 1), true, false)
	checkFilterOk(t, falling(items, 0, 1000, -1), false, true)
	checkFilterOk(t, falling(items+1, 0, 1000, -1), false, false)
	checkNoPush(t, falling(items+1, 0, 1000, 1), impl.Sample{At: items + 1, Value: 1}, 5, true)
	checkNoPush(t, falling(items+1, 0, 1000, 1), impl.Sample{At: items + 1, Value: 5000}, 0, true)
	checkNoPush(t, falling(items+1, 0, 1000, -1), impl.Sample{At: items + 1, Value: 5000}, 5, false)
}

func TestPushToNone(t *testing.T) {
	for _, f := range []impl.Filter{{}, {Items: []impl.Sample{}}, {Items: make([]impl.Sample, 0, 5)}} {
		for _, s := range []impl.Sample{{}, {At: 7, Value: 3}, {At: impl.MaxTime, Value: impl.MaxRate}} {
			for _, window := range []int64{0, 5, impl.MaxTime} {
				checkPush(t, f, s, window, true, filterOf(s))
				checkPush(t, f, s, window, false, filterOf(s))
			}
		}
	}
}

func TestPushDropsWhatIsBeaten(t *testing.T) {
	a, b, c := impl.Sample{At: 1, Value: 9}, impl.Sample{At: 2, Value: 6}, impl.Sample{At: 3, Value: 4}
	for value, left := range map[int64][]impl.Sample{
		3: {a, b, c}, 4: {a, b}, 5: {a, b}, 6: {a}, 8: {a}, 9: {}, 10: {}, 0: {a, b, c}, impl.MaxRate: {},
	} {
		s := impl.Sample{At: 4, Value: value}
		checkPush(t, filterOf(a, b, c), s, 50, true, filterOf(append(left, s)...))
	}
	a, b, c = impl.Sample{At: 1, Value: 4}, impl.Sample{At: 2, Value: 6}, impl.Sample{At: 3, Value: 9}
	for value, left := range map[int64][]impl.Sample{
		10: {a, b, c}, 9: {a, b}, 7: {a, b}, 6: {a}, 5: {a}, 4: {}, 3: {}, 0: {}, impl.MaxRate: {a, b, c},
	} {
		s := impl.Sample{At: 4, Value: value}
		checkPush(t, filterOf(a, b, c), s, 50, false, filterOf(append(left, s)...))
	}
}

func TestPushAtTheLastItemsTime(t *testing.T) {
	high, low := impl.Sample{At: 1, Value: 9}, impl.Sample{At: 5, Value: 6}
	checkPush(t, filterOf(high, low), impl.Sample{At: 5, Value: 5}, 50, true, filterOf(high, low))
	checkPush(t, filterOf(high, low), impl.Sample{At: 5, Value: 6}, 50, true, filterOf(high, low))
	checkPush(t, filterOf(high, low), impl.Sample{At: 5, Value: 7}, 50, true, filterOf(high, impl.Sample{At: 5, Value: 7}))
	checkPush(t, filterOf(high, low), impl.Sample{At: 5, Value: 9}, 50, true, filterOf(impl.Sample{At: 5, Value: 9}))
	// The window counts where the sample does not come behind, too.
	checkPush(t, filterOf(high, low), impl.Sample{At: 5, Value: 5}, 4, true, filterOf(high, low))
	checkPush(t, filterOf(high, low), impl.Sample{At: 5, Value: 5}, 3, true, filterOf(low))
	checkPush(t, filterOf(high, low), impl.Sample{At: 5, Value: 5}, 0, true, filterOf(low))
	high, low = impl.Sample{At: 5, Value: 6}, impl.Sample{At: 1, Value: 2}
	checkPush(t, filterOf(low, high), impl.Sample{At: 5, Value: 7}, 50, false, filterOf(low, high))
	checkPush(t, filterOf(low, high), impl.Sample{At: 5, Value: 6}, 50, false, filterOf(low, high))
	checkPush(t, filterOf(low, high), impl.Sample{At: 5, Value: 5}, 50, false, filterOf(low, impl.Sample{At: 5, Value: 5}))
	checkPush(t, filterOf(low, high), impl.Sample{At: 5, Value: 2}, 50, false, filterOf(impl.Sample{At: 5, Value: 2}))
	checkPush(t, filterOf(low, high), impl.Sample{At: 5, Value: 7}, 3, false, filterOf(high))
}

func TestPushAtTheWindowsEdge(t *testing.T) {
	a, b, s := impl.Sample{At: 10, Value: 9}, impl.Sample{At: 15, Value: 6}, impl.Sample{At: 30, Value: 3}
	checkPush(t, filterOf(a, b), s, 21, true, filterOf(a, b, s))
	checkPush(t, filterOf(a, b), s, 20, true, filterOf(a, b, s)) // just the sample's less window
	checkPush(t, filterOf(a, b), s, 19, true, filterOf(b, s))    // one less
	checkPush(t, filterOf(a, b), s, 15, true, filterOf(b, s))
	checkPush(t, filterOf(a, b), s, 14, true, filterOf(s))
	checkPush(t, filterOf(a, b), s, 1, true, filterOf(s))
	checkPush(t, filterOf(a, b), s, 0, true, filterOf(s))
	checkPush(t, filterOf(a, b), s, impl.MaxTime, true, filterOf(a, b, s))
	first, last := impl.Sample{At: 0, Value: 0}, impl.Sample{At: impl.MaxTime, Value: impl.MaxRate}
	checkPush(t, filterOf(first), last, impl.MaxTime, false, filterOf(first, last))
	checkPush(t, filterOf(first), last, impl.MaxTime-1, false, filterOf(last))
	checkPush(t, filterOf(first), last, 0, false, filterOf(last))
}

// However late it is, the last item is there: nothing but a Push takes it away.
func TestLastItemStays(t *testing.T) {
	f := checkPush(t, impl.Filter{}, impl.Sample{At: 1, Value: 9}, 0, true, filterOf(impl.Sample{At: 1, Value: 9}))
	checkBest(t, f, 9)
	checkSince(t, f, 1000, 999)
	f = checkPush(t, f, impl.Sample{At: 1, Value: 8}, 0, true, f)
	f = checkPush(t, f, impl.Sample{At: impl.MaxTime, Value: 0}, 0, true, filterOf(impl.Sample{At: impl.MaxTime}))
	checkBest(t, f, 0)
	checkSince(t, f, impl.MaxTime, 0)
}

func TestPushToMaxItems(t *testing.T) {
	const items = impl.MaxItems
	for _, most := range []bool{true, false} {
		step := int64(1)
		if !most {
			step = -1
		}
		f := falling(items, 0, 1000, step)
		longer := falling(items+1, 0, 1000, step)
		next := longer.Items[items]
		checkPush(t, f, next, impl.MaxTime, most, filterOf(longer.Items[1:]...))
		checkPush(t, f, next, items, most, filterOf(longer.Items[1:]...))
		// What the window takes makes room: then no other item goes.
		checkPush(t, f, next, items-1, most, filterOf(longer.Items[1:]...))
		checkPush(t, f, next, items-2, most, filterOf(longer.Items[2:]...))
		last := f.Items[items-1]
		checkPush(t, f, last, impl.MaxTime, most, f)
		last.Value -= step
		checkPush(t, f, last, impl.MaxTime, most, f)
		checkPush(t, falling(items-1, 0, 1000, step), f.Items[items-1], impl.MaxTime, most, f)
	}
}

func TestPushWrongWindow(t *testing.T) {
	f := filterOf(impl.Sample{At: 3, Value: 9})
	for _, window := range []int64{-1, math.MinInt64, impl.MaxTime + 1, math.MaxInt64} {
		for _, most := range []bool{true, false} {
			checkNoPush(t, f, impl.Sample{At: 4, Value: 9}, window, most)
			checkNoPush(t, impl.Filter{}, impl.Sample{At: 4, Value: 9}, window, most)
		}
	}
}

func TestPushEarlier(t *testing.T) {
	falls := filterOf(impl.Sample{At: 3, Value: 9}, impl.Sample{At: 8, Value: 6})
	rises := filterOf(impl.Sample{At: 3, Value: 6}, impl.Sample{At: 8, Value: 9})
	for _, at := range []int64{0, 2, 3, 4, 7} {
		for _, value := range []int64{0, 6, 7, 9, 10, impl.MaxRate} {
			checkNoPush(t, falls, impl.Sample{At: at, Value: value}, 50, true)
			checkNoPush(t, rises, impl.Sample{At: at, Value: value}, 50, false)
		}
	}
}

func TestPushOfTheOtherKind(t *testing.T) {
	falls := filterOf(impl.Sample{At: 3, Value: 9}, impl.Sample{At: 8, Value: 6})
	rises := filterOf(impl.Sample{At: 3, Value: 6}, impl.Sample{At: 8, Value: 9})
	for _, value := range []int64{0, 6, 7, 9, 10} {
		checkNoPush(t, rises, impl.Sample{At: 9, Value: value}, 50, true)
		checkNoPush(t, falls, impl.Sample{At: 9, Value: value}, 50, false)
	}
}

// Every field of an item, of the sample and the window at and around its bounds.
func TestPushAtEdges(t *testing.T) {
	times := []int64{math.MinInt64, -1, 0, 1, impl.MaxTime - 1, impl.MaxTime, impl.MaxTime + 1, math.MaxInt64}
	values := []int64{math.MinInt64, -1, 0, 1, impl.MaxRate - 1, impl.MaxRate, impl.MaxRate + 1, math.MaxInt64}
	right := 0
	check := func(f impl.Filter, s impl.Sample, window int64, most bool) {
		checkFilterOk(t, f, most, wantFilterOk(f, most))
		want, ok := wantPush(f, s, window, most)
		if !ok {
			checkNoPush(t, f, s, window, most)
			return
		}
		right++
		checkPush(t, f, s, window, most, want)
	}
	for i := range len(times) * len(values) * len(times) * len(values) * len(times) {
		item := impl.Sample{At: times[i&7], Value: values[i>>3&7]}
		s := impl.Sample{At: times[i>>6&7], Value: values[i>>9&7]}
		check(filterOf(item), s, times[i>>12], true)
		check(filterOf(item), s, times[i>>12], false)
	}
	if right < 1000 {
		t.Fatal("too few of them are right:", right)
	}
}

// withRoom lies in the midst of a longer list whose other samples tell if they are touched.
func withRoom(list []impl.Sample) (impl.Filter, []impl.Sample) {
	whole := make([]impl.Sample, len(list)+9)
	for i := range whole {
		whole[i] = impl.Sample{At: -100 - int64(i), Value: -7}
	}
	copy(whole[2:], list)
	return impl.Filter{Items: whole[2 : 2+len(list)]}, whole
}

func checkMemory(t *testing.T, list []impl.Sample, s impl.Sample, window int64, most bool) {
	t.Helper()
	f, whole := withRoom(list)
	before := slices.Clone(whole)
	got, ok := impl.Push(f, s, window, most)
	impl.FilterOk(f, most)
	impl.Best(f)
	impl.Since(f, s.At)
	if !slices.Equal(whole, before) {
		t.Fatalf("Push(%v, %v, %d, %v) wrote into its argument: %v", list, s, window, most, whole)
	}
	want, wantOk := wantPush(impl.Filter{Items: list}, s, window, most)
	clear(whole)
	if ok != wantOk || !slices.Equal(got.Items, want.Items) {
		t.Fatalf("Push(%v, %v, %d, %v) hangs on its argument: %v, %v", list, s, window, most, got, ok)
	}
	all := got.Items[:cap(got.Items)]
	for i := range all {
		all[i] = impl.Sample{At: 5, Value: 5}
	}
	if slices.ContainsFunc(whole, func(x impl.Sample) bool { return x != impl.Sample{} }) {
		t.Fatalf("Push(%v, %v, %d, %v) shares memory with its argument", list, s, window, most)
	}
}

func TestPushMemory(t *testing.T) {
	falls := falling(6, 10, 100, 10).Items
	rises := falling(6, 10, 100, -10).Items
	for n := range len(falls) + 1 {
		for at := int64(9); at < 20; at++ {
			for value := int64(0); value <= 200; value += 5 {
				for _, window := range []int64{0, 2, 5, 50} {
					s := impl.Sample{At: at, Value: value}
					checkMemory(t, falls[:n], s, window, true)
					checkMemory(t, rises[:n], s, window, false)
					checkMemory(t, rises[:n], s, window, true)
				}
			}
		}
	}
	full := falling(impl.MaxItems, 10, 1000, 1).Items
	for value := int64(890); value < 1010; value++ {
		checkMemory(t, full, impl.Sample{At: 9 + impl.MaxItems, Value: value}, impl.MaxTime, true)
		checkMemory(t, full, impl.Sample{At: 10 + impl.MaxItems, Value: value}, impl.MaxTime, true)
	}
	checkMemory(t, falling(impl.MaxItems+1, 10, 1000, 1).Items, impl.Sample{At: 500, Value: 1}, 5, true)
}

// Two filters that were pushed from one have nothing to do with each other.
func TestPushTwiceFromOne(t *testing.T) {
	f := falling(3, 0, 100, 10)
	for at := int64(3); at < 20; at++ {
		a, b := impl.Sample{At: at, Value: 50 - at}, impl.Sample{At: at, Value: 30 - at}
		withA := checkPush(t, f, a, 50, true, filterOf(append(slices.Clone(f.Items), a)...))
		checkPush(t, f, b, 50, true, filterOf(append(slices.Clone(f.Items), b)...))
		if withA.Items[len(withA.Items)-1] != a {
			t.Fatal(withA)
		}
		f = withA
	}
}

func TestBest(t *testing.T) {
	checkBest(t, impl.Filter{}, 0)
	checkBest(t, impl.Filter{Items: []impl.Sample{}}, 0)
	checkBest(t, filterOf(impl.Sample{At: 3, Value: 9}, impl.Sample{At: 8, Value: 6}), 9)
	checkBest(t, filterOf(impl.Sample{At: 3, Value: 6}, impl.Sample{At: 8, Value: 9}), 6)
	checkBest(t, filterOf(impl.Sample{Value: impl.MaxRate}), impl.MaxRate)
	// It is the first item's Value, of whatever list.
	checkBest(t, filterOf(impl.Sample{At: -1, Value: -5}, impl.Sample{At: 8, Value: 9}), -5)
	checkBest(t, filterOf(impl.Sample{At: 9, Value: math.MaxInt64}, impl.Sample{At: 8, Value: 9}), math.MaxInt64)
	checkBest(t, falling(impl.MaxItems+1, 0, 1000, 1), 1000)
}

func TestSince(t *testing.T) {
	f := filterOf(impl.Sample{At: 3, Value: 9}, impl.Sample{At: 8, Value: 6})
	checkSince(t, f, 3, 0)
	checkSince(t, f, 4, 1)
	checkSince(t, f, 10, 7)
	checkSince(t, f, impl.MaxTime, impl.MaxTime-3)
	checkSince(t, filterOf(impl.Sample{}), 0, 0)
	checkSince(t, filterOf(impl.Sample{}), impl.MaxTime, impl.MaxTime)
	checkSince(t, filterOf(impl.Sample{At: impl.MaxTime}), impl.MaxTime, 0)
	// Only the first item's time counts, of whatever list.
	checkSince(t, filterOf(impl.Sample{At: 3, Value: -5}, impl.Sample{At: -8, Value: 6}), 5, 2)
	checkSince(t, falling(impl.MaxItems+1, 7, 1000, 1), 9, 2)
}

func TestSinceWrong(t *testing.T) {
	f := filterOf(impl.Sample{At: 3, Value: 9}, impl.Sample{At: 8, Value: 6})
	for _, at := range []int64{math.MinInt64, -1, 0, 2, impl.MaxTime + 1, math.MaxInt64} {
		checkSince(t, f, at, -1)
	}
	for _, at := range []int64{-1, 0, 3, impl.MaxTime, impl.MaxTime + 1, math.MinInt64, math.MaxInt64} {
		checkSince(t, impl.Filter{}, at, -1)
		checkSince(t, impl.Filter{Items: []impl.Sample{}}, at, -1)
		for _, first := range []int64{math.MinInt64, -1, impl.MaxTime + 1, math.MaxInt64} {
			checkSince(t, filterOf(impl.Sample{At: first, Value: 5}), at, -1)
		}
	}
	checkSince(t, filterOf(impl.Sample{At: impl.MaxTime}), impl.MaxTime-1, -1)
}
