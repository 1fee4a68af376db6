package tests

import (
	"maps"
	"math"
	"math/big"
	"slices"
	"sync"
	"testing"

	"loop.example/g00147/impl"
)

func placeOf(window int64, flight int64, members ...int64) impl.Place {
	return impl.Place{Window: window, Flight: flight, Members: members}
}

// risingIds are n of them, with room for others ahead of, between and behind them.
func risingIds(n int) []int64 {
	var list []int64
	for i := range n {
		list = append(list, int64(10+20*i))
	}
	return list
}

func placeOfMany(n int) impl.Place { return placeOf(90000, 4000, risingIds(n)...) }

func copiedPlace(p impl.Place) impl.Place {
	p.Members = slices.Clone(p.Members)
	return p
}

func withMembers(p impl.Place, members ...int64) impl.Place {
	p.Members = members
	return p
}

func withWindow(p impl.Place, window int64) impl.Place {
	p.Window = window
	return p
}

func withFlight(p impl.Place, flight int64) impl.Place {
	p.Flight = flight
	return p
}

func isSamePlace(a impl.Place, b impl.Place) bool {
	return a.Window == b.Window && a.Flight == b.Flight && slices.Equal(a.Members, b.Members)
}

func isIdByWords(id int64) bool { return isOf(id, 1000000) }

// memberSet knows no order.
func memberSet(p impl.Place) map[int64]struct{} {
	set := map[int64]struct{}{}
	for _, id := range p.Members {
		set[id] = struct{}{}
	}
	return set
}

func isMember(p impl.Place, id int64) bool {
	_, is := memberSet(p)[id]
	return is
}

func wantPlaceOk(p impl.Place) bool {
	if p.Window < 3000 || p.Window > 1000000000 || !isWindowByWords(p.Flight) || len(p.Members) > 50 {
		return false
	}
	for _, id := range p.Members {
		if !isIdByWords(id) {
			return false
		}
	}
	return slices.Equal(p.Members, slices.Sorted(maps.Keys(memberSet(p))))
}

func wantJoin(p impl.Place, id int64) (impl.Place, bool) {
	if !wantPlaceOk(p) || !isIdByWords(id) || isMember(p, id) || len(p.Members) == 50 {
		return impl.Place{}, false
	}
	set := memberSet(p)
	set[id] = struct{}{}
	return withMembers(p, slices.Sorted(maps.Keys(set))...), true
}

// lessByWords is how much is left, at least 0.
func lessByWords(flight int64, gone int64) int64 {
	return boundedBig(new(big.Int).Sub(big.NewInt(flight), big.NewInt(gone)), math.MaxInt64)
}

func wantQuit(p impl.Place, id int64, flight int64) (impl.Place, bool) {
	if !wantPlaceOk(p) || !isMember(p, id) || !isWindowByWords(flight) {
		return impl.Place{}, false
	}
	set := memberSet(p)
	delete(set, id)
	return placeOf(p.Window, lessByWords(p.Flight, flight), slices.Sorted(maps.Keys(set))...), true
}

func wantRoom(p impl.Place, n int64) bool {
	return wantPlaceOk(p) && isSizeByWords(n) && sumByWords(p.Flight, n).Cmp(big.NewInt(p.Window)) <= 0
}

func wantClaim(p impl.Place, n int64) (impl.Place, bool) {
	if !wantRoom(p, n) {
		return impl.Place{}, false
	}
	return withFlight(p, sumByWords(p.Flight, n).Int64()), true
}

func wantFree(p impl.Place, n int64, lost bool) impl.Place {
	if !wantPlaceOk(p) || n < 1 || n > 1000000000 {
		return impl.Place{}
	}
	window := partByWords(big.NewInt(n), 1500, p.Window)
	window.Add(window, big.NewInt(p.Window))
	if lost {
		window = greaterBig(partByWords(big.NewInt(p.Window), 1, 2), big.NewInt(3000))
	}
	return withFlight(withWindow(p, atMostBig(window, 1000000000)), lessByWords(p.Flight, n))
}

func wantShare(p impl.Place) int64 {
	if !wantPlaceOk(p) {
		return -1
	}
	if len(p.Members) == 0 {
		return p.Window
	}
	return greaterBig(partByWords(big.NewInt(p.Window), 1, int64(len(p.Members))), big.NewInt(3000)).Int64()
}

func checkPlaceOk(t *testing.T, p impl.Place, want bool) {
	t.Helper()
	if ok := impl.PlaceOk(p); ok != want {
		t.Fatalf("PlaceOk(%+v) = %v, not %v", p, ok, want)
	}
}

func checkJoin(t *testing.T, p impl.Place, id int64, want impl.Place, wantOk bool) impl.Place {
	t.Helper()
	got, ok := impl.Join(p, id)
	if ok != wantOk || !isSamePlace(got, want) {
		t.Fatalf("Join(%+v, %d) = %+v, %v, not %+v, %v", p, id, got, ok, want, wantOk)
	}
	return got
}

func checkQuit(t *testing.T, p impl.Place, id int64, flight int64, want impl.Place, wantOk bool) impl.Place {
	t.Helper()
	got, ok := impl.Quit(p, id, flight)
	if ok != wantOk || !isSamePlace(got, want) {
		t.Fatalf("Quit(%+v, %d, %d) = %+v, %v, not %+v, %v", p, id, flight, got, ok, want, wantOk)
	}
	return got
}

func checkRoom(t *testing.T, p impl.Place, n int64, want bool) {
	t.Helper()
	if got := impl.Room(p, n); got != want {
		t.Fatalf("Room(%+v, %d) = %v, not %v", p, n, got, want)
	}
}

func checkClaim(t *testing.T, p impl.Place, n int64, want impl.Place, wantOk bool) impl.Place {
	t.Helper()
	got, ok := impl.Claim(p, n)
	if ok != wantOk || !isSamePlace(got, want) {
		t.Fatalf("Claim(%+v, %d) = %+v, %v, not %+v, %v", p, n, got, ok, want, wantOk)
	}
	return got
}

func checkFree(t *testing.T, p impl.Place, n int64, lost bool, want impl.Place) impl.Place {
	t.Helper()
	got := impl.Free(p, n, lost)
	if !isSamePlace(got, want) {
		t.Fatalf("Free(%+v, %d, %v) = %+v, not %+v", p, n, lost, got, want)
	}
	return got
}

func checkShare(t *testing.T, p impl.Place, want int64) {
	t.Helper()
	if got := impl.Share(p); got != want {
		t.Fatalf("Share(%+v) = %d, not %d", p, got, want)
	}
}

func checkNoJoin(t *testing.T, p impl.Place, id int64) {
	t.Helper()
	checkJoin(t, p, id, impl.Place{}, false)
}

func checkNoQuit(t *testing.T, p impl.Place, id int64, flight int64) {
	t.Helper()
	checkQuit(t, p, id, flight, impl.Place{}, false)
}

func checkNoRoom(t *testing.T, p impl.Place, n int64) {
	t.Helper()
	checkRoom(t, p, n, false)
	checkClaim(t, p, n, impl.Place{}, false)
}

func checkNoFree(t *testing.T, p impl.Place, n int64) {
	t.Helper()
	checkFree(t, p, n, false, impl.Place{})
	checkFree(t, p, n, true, impl.Place{})
}

// checkPlace holds all functions against the plain account.
func checkPlace(t *testing.T, p impl.Place, id int64, flight int64, n int64) {
	t.Helper()
	checkPlaceOk(t, p, wantPlaceOk(p))
	joined, ok := wantJoin(p, id)
	checkJoin(t, p, id, joined, ok)
	left, ok := wantQuit(p, id, flight)
	checkQuit(t, p, id, flight, left, ok)
	checkRoom(t, p, n, wantRoom(p, n))
	claimed, ok := wantClaim(p, n)
	checkClaim(t, p, n, claimed, ok)
	checkFree(t, p, n, false, wantFree(p, n, false))
	checkFree(t, p, n, true, wantFree(p, n, true))
	checkShare(t, p, wantShare(p))
}

// checkNoPlace wants the fixed answers for a Place that is not right.
func checkNoPlace(t *testing.T, p impl.Place) {
	t.Helper()
	checkPlaceOk(t, p, false)
	checkShare(t, p, -1)
	for _, id := range append(slices.Clone(p.Members[:min(len(p.Members), 3)]), -1, 0, 5, 1000000, 1000001) {
		checkNoJoin(t, p, id)
		checkNoQuit(t, p, id, 0)
		checkNoQuit(t, p, id, 1500)
	}
	for _, n := range []int64{-1, 0, 1, 1500, 1501, 1000000000} {
		checkNoRoom(t, p, n)
		checkNoFree(t, p, n)
	}
}

// The promise, call by call: what is made of a right Place is right, who joins
// is a member until they quit, and what is claimed is in flight until it is freed.

func checkJoining(t *testing.T, p impl.Place, id int64) impl.Place {
	t.Helper()
	want, _ := wantJoin(p, id)
	joined := checkJoin(t, p, id, want, true)
	checkPlaceOk(t, joined, true)
	if isMember(p, id) || !isMember(joined, id) || len(joined.Members) != len(p.Members)+1 {
		t.Fatalf("Join(%+v, %d) = %+v", p, id, joined)
	}
	for _, other := range p.Members {
		if !isMember(joined, other) {
			t.Fatalf("Join(%+v, %d) = %+v", p, id, joined)
		}
	}
	checkNoJoin(t, joined, id)
	checkQuit(t, joined, id, 0, p, true)
	return joined
}

func checkQuitting(t *testing.T, p impl.Place, id int64, flight int64) impl.Place {
	t.Helper()
	want, _ := wantQuit(p, id, flight)
	left := checkQuit(t, p, id, flight, want, true)
	checkPlaceOk(t, left, true)
	if !isMember(p, id) || isMember(left, id) || left.Window != p.Window || left.Flight > p.Flight {
		t.Fatalf("Quit(%+v, %d, %d) = %+v", p, id, flight, left)
	}
	checkNoQuit(t, left, id, flight)
	checkJoin(t, left, id, withFlight(p, left.Flight), true)
	return left
}

func checkClaiming(t *testing.T, p impl.Place, n int64) (impl.Place, bool) {
	t.Helper()
	is := wantRoom(p, n)
	checkRoom(t, p, n, is)
	want, _ := wantClaim(p, n)
	claimed := checkClaim(t, p, n, want, is)
	if !is {
		return p, false
	}
	checkPlaceOk(t, claimed, true)
	if claimed.Flight != p.Flight+n || claimed.Flight > claimed.Window || claimed.Window != p.Window {
		t.Fatalf("Claim(%+v, %d) = %+v", p, n, claimed)
	}
	if freed := impl.Free(claimed, n, false); freed.Flight != p.Flight {
		t.Fatalf("Claim(%+v, %d) = %+v, freed %+v", p, n, claimed, freed)
	}
	return claimed, true
}

func checkFreeing(t *testing.T, p impl.Place, n int64, lost bool) impl.Place {
	t.Helper()
	freed := checkFree(t, p, n, lost, wantFree(p, n, lost))
	checkPlaceOk(t, freed, true)
	if freed.Flight != max(p.Flight-n, 0) || !slices.Equal(freed.Members, p.Members) {
		t.Fatalf("Free(%+v, %d, %v) = %+v", p, n, lost, freed)
	}
	if lost && freed.Window != max(p.Window/2, 3000) || !lost && freed.Window < p.Window {
		t.Fatalf("Free(%+v, %d, %v) = %+v", p, n, lost, freed)
	}
	return freed
}

// aroundMembers are the members, and those beside each of them.
func aroundMembers(p impl.Place) []int64 {
	list := []int64{0, 1, 500000, 999999, 1000000}
	for _, id := range p.Members {
		list = append(list, id-1, id, id+1)
	}
	return list
}

// checkRightPlace wants a Place to be right, and all that is made of it.
func checkRightPlace(t *testing.T, p impl.Place) {
	t.Helper()
	checkPlaceOk(t, p, true)
	for _, id := range aroundMembers(p) {
		switch {
		case isMember(p, id):
			checkNoJoin(t, p, id)
			for _, flight := range []int64{0, 1, p.Flight, 1000000000} {
				checkQuitting(t, p, id, flight)
			}
		case isIdByWords(id) && len(p.Members) < 50:
			checkJoining(t, p, id)
			checkNoQuit(t, p, id, 0)
		default:
			checkNoJoin(t, p, id)
			checkNoQuit(t, p, id, 0)
		}
	}
	for _, n := range []int64{1, 2, 1499, 1500, bounded(p.Window-p.Flight, 1, 1500), bounded(p.Window-p.Flight+1, 1, 1500)} {
		checkClaiming(t, p, n)
	}
	for _, n := range []int64{1, 1500, max(p.Flight, 1), min(p.Flight+1, 1000000000), p.Window, 1000000000} {
		checkFreeing(t, p, n, false)
		checkFreeing(t, p, n, true)
	}
	checkShare(t, p, wantShare(p))
	if share := impl.Share(p); share < 3000 || share > p.Window {
		t.Fatalf("Share(%+v) = %d", p, share)
	}
}

func checkIsRightPlace(t *testing.T, p impl.Place, is bool) {
	t.Helper()
	if is {
		checkRightPlace(t, p)
	} else {
		checkNoPlace(t, p)
	}
}

// rightPlaces have none, some and all members, with nothing, something and too
// much in flight.
func rightPlaces() []impl.Place {
	var list []impl.Place
	for _, n := range []int{0, 1, 2, 3, 49, 50} {
		for _, flight := range []int64{0, 4000, 90000, 200000} {
			list = append(list, withFlight(placeOfMany(n), flight))
		}
	}
	return list
}

func TestPlaceLimits(t *testing.T) {
	if impl.MaxMembers != 50 || impl.MinWindow != 3000 || impl.MaxId != 1000000 {
		t.Fatal(impl.MaxMembers, impl.MinWindow, impl.MaxId)
	}
}

func TestPlaceByHand(t *testing.T) {
	p := placeOf(9000, 0)
	checkShare(t, p, 9000)
	p = checkJoin(t, p, 4, placeOf(9000, 0, 4), true)
	p = checkJoin(t, p, 2, placeOf(9000, 0, 2, 4), true)
	p = checkJoin(t, p, 3, placeOf(9000, 0, 2, 3, 4), true)
	checkShare(t, p, 3000)
	p = checkQuit(t, p, 3, 0, placeOf(9000, 0, 2, 4), true)
	checkShare(t, p, 4500)
	p = checkClaim(t, p, 1500, placeOf(9000, 1500, 2, 4), true)
	p = checkClaim(t, p, 500, placeOf(9000, 2000, 2, 4), true)
	p = checkFree(t, p, 1500, false, placeOf(9250, 500, 2, 4))
	p = checkFree(t, p, 100, true, placeOf(4625, 400, 2, 4))
	checkShare(t, p, 3000)
	p = checkQuit(t, p, 2, 300, placeOf(4625, 100, 4), true)
	p = checkQuit(t, p, 4, 300, placeOf(4625, 0), true)
	checkShare(t, p, 4625)
}

// Each number by itself, at its bounds, just within them and just without.
func TestPlaceNumbers(t *testing.T) {
	for _, p := range rightPlaces() {
		for _, window := range []int64{3000, 3001, 999999999, 1000000000} {
			checkRightPlace(t, withWindow(p, window))
		}
		for _, window := range []int64{math.MinInt64, -3000, -1, 0, 1, 2999, 1000000001, math.MaxInt64} {
			checkNoPlace(t, withWindow(p, window))
		}
		for _, flight := range []int64{0, 1, p.Window - 1, p.Window, p.Window + 1, 999999999, 1000000000} {
			checkRightPlace(t, withFlight(p, flight))
		}
		for _, flight := range []int64{math.MinInt64, -1000000000, -1, 1000000001, math.MaxInt64} {
			checkNoPlace(t, withFlight(p, flight))
		}
	}
	checkNoPlace(t, impl.Place{})
}

func TestPlaceNumbersAtEdges(t *testing.T) {
	p := placeOf(9000, 1000, 3, 5)
	for _, x := range append(edges(), 2999, 3000, 3001) {
		checkIsRightPlace(t, withWindow(p, x), x >= 3000 && x <= 1000000000)
		checkIsRightPlace(t, withFlight(p, x), x >= 0 && x <= 1000000000)
	}
}

func TestMembersByHand(t *testing.T) {
	for _, c := range []struct {
		members []int64
		right   bool
	}{
		{nil, true},
		{[]int64{}, true},
		{[]int64{-1}, false},
		{[]int64{0}, true},
		{[]int64{1}, true},
		{[]int64{999999}, true},
		{[]int64{1000000}, true},
		{[]int64{1000001}, false},
		{[]int64{math.MinInt64}, false},
		{[]int64{math.MaxInt64}, false},
		{[]int64{0, 1000000}, true},
		{[]int64{-1, 1000000}, false},
		{[]int64{0, 1000001}, false},
		{[]int64{1000000, 0}, false},
		{[]int64{0, 0}, false},
		{[]int64{7, 7}, false},
		{[]int64{1000000, 1000000}, false},
		{[]int64{7, 8}, true},
		{[]int64{8, 7}, false},
		{[]int64{7, 8, 9}, true},
		{[]int64{7, 8, 8}, false},
		{[]int64{7, 7, 8}, false},
		{[]int64{7, 9, 8}, false},
		{[]int64{8, 7, 9}, false},
		{[]int64{7, 8, 7}, false},
		{[]int64{9, 8, 7}, false},
		{[]int64{7, 8, 1000001}, false},
		{[]int64{7, -1, 8}, false},
		{[]int64{7, 1000001, 8}, false},
		{[]int64{math.MinInt64, 7, 8}, false},
		{[]int64{7, 8, math.MaxInt64}, false},
	} {
		checkIsRightPlace(t, placeOf(9000, 1000, c.members...), c.right)
		checkIsRightPlace(t, impl.Place{Window: 9000, Flight: 1000, Members: c.members}, c.right)
	}
}

func TestCountsOfMembers(t *testing.T) {
	for n := range 50 {
		checkRightPlace(t, placeOfMany(n))
	}
	checkRightPlace(t, placeOfMany(50))
	for _, n := range []int{51, 52, 100, 101, 1000, 40000} {
		checkNoPlace(t, placeOfMany(n))
	}
	// All Ids that there are side by side, and the last ones.
	var first, last []int64
	for i := range int64(51) {
		first = append(first, i)
		last = append(last, 1000000-50+i)
	}
	checkRightPlace(t, placeOf(9000, 0, first[:50]...))
	checkRightPlace(t, placeOf(9000, 0, last[1:]...))
	checkNoPlace(t, placeOf(9000, 0, first...))
	checkNoPlace(t, placeOf(9000, 0, last...))
}

// One wrong member among all of them, wherever it is.
func TestOneWrongMember(t *testing.T) {
	for _, n := range []int{1, 2, 3, 10, 49, 50} {
		for i := range n {
			p := placeOfMany(n)
			for _, id := range noIds() {
				members := slices.Clone(p.Members)
				members[i] = id
				checkNoPlace(t, withMembers(p, members...))
			}
			if i == 0 {
				continue
			}
			for _, less := range []int64{0, 1, 10} {
				members := slices.Clone(p.Members)
				members[i] = members[i-1] - less
				checkNoPlace(t, withMembers(p, members...))
			}
			members := slices.Clone(p.Members)
			members[i] = members[i-1] + 1
			checkRightPlace(t, withMembers(p, members...))
			slices.Reverse(members)
			checkNoPlace(t, withMembers(p, members...))
		}
	}
}

func TestJoinByHand(t *testing.T) {
	none, some := placeOf(9000, 1000), placeOf(9000, 1000, 20, 40)
	for _, id := range []int64{0, 1, 7, 999999, 1000000} {
		checkJoin(t, none, id, placeOf(9000, 1000, id), true)
		checkJoin(t, impl.Place{Window: 9000, Flight: 1000, Members: []int64{}}, id, placeOf(9000, 1000, id), true)
	}
	for _, id := range []int64{0, 1, 19} {
		checkJoin(t, some, id, placeOf(9000, 1000, id, 20, 40), true)
	}
	for _, id := range []int64{21, 30, 39} {
		checkJoin(t, some, id, placeOf(9000, 1000, 20, id, 40), true)
	}
	for _, id := range []int64{41, 999999, 1000000} {
		checkJoin(t, some, id, placeOf(9000, 1000, 20, 40, id), true)
	}
	for _, id := range []int64{20, 40, -1, 1000001, math.MinInt64, math.MaxInt64} {
		checkNoJoin(t, some, id)
	}
	for _, id := range []int64{-1, 1000001, math.MinInt64, math.MaxInt64} {
		checkNoJoin(t, none, id)
	}
	ends := placeOf(9000, 1000, 0, 1000000)
	checkNoJoin(t, ends, 0)
	checkNoJoin(t, ends, 1000000)
	checkJoin(t, ends, 1, placeOf(9000, 1000, 0, 1, 1000000), true)
	checkJoin(t, ends, 999999, placeOf(9000, 1000, 0, 999999, 1000000), true)
	// More in flight than the window keeps nobody from joining.
	checkJoin(t, placeOf(3000, 1000000000), 5, placeOf(3000, 1000000000, 5), true)
}

func TestJoinToMaxMembers(t *testing.T) {
	for _, id := range []int64{0, 9, 11, 25, 500, 969, 971, 1000000} {
		almost := placeOfMany(49)
		full := checkJoining(t, almost, id)
		if len(full.Members) != 50 {
			t.Fatal(full)
		}
		for _, other := range aroundMembers(full) {
			checkNoJoin(t, full, other)
		}
		for _, member := range full.Members {
			left := checkQuitting(t, full, member, 0)
			checkJoining(t, left, member)
		}
	}
	full := placeOfMany(50)
	for _, id := range append(noIds(), 0, 5, 10, 500, 990, 995, 1000000) {
		checkNoJoin(t, full, id)
	}
}

func TestQuitByHand(t *testing.T) {
	p := placeOf(9000, 1000, 20, 30, 40, 50)
	checkQuit(t, p, 20, 0, placeOf(9000, 1000, 30, 40, 50), true)
	checkQuit(t, p, 30, 0, placeOf(9000, 1000, 20, 40, 50), true)
	checkQuit(t, p, 40, 0, placeOf(9000, 1000, 20, 30, 50), true)
	checkQuit(t, p, 50, 0, placeOf(9000, 1000, 20, 30, 40), true)
	for _, id := range []int64{0, 1000000, 7} {
		checkQuit(t, placeOf(9000, 1000, id), id, 0, placeOf(9000, 1000), true)
	}
	for _, id := range []int64{0, 19, 21, 29, 31, 39, 41, 49, 51, 1000000, -1, 1000001, -20, math.MinInt64, math.MaxInt64} {
		checkNoQuit(t, p, id, 0)
		checkNoQuit(t, p, id, 1000)
		checkNoQuit(t, placeOf(9000, 1000), id, 0)
	}
	// The Id 0 is a member only where it is told.
	checkNoQuit(t, placeOf(9000, 1000, 1), 0, 0)
	checkQuit(t, placeOf(9000, 1000, 0, 1), 0, 0, placeOf(9000, 1000, 1), true)
}

func TestFlightOfQuit(t *testing.T) {
	p := placeOf(9000, 1000, 20, 30)
	for _, c := range []struct{ flight, left int64 }{
		{0, 1000}, {1, 999}, {999, 1}, {1000, 0}, {1001, 0}, {9000, 0}, {9001, 0}, {999999999, 0}, {1000000000, 0},
	} {
		checkQuit(t, p, 20, c.flight, placeOf(9000, c.left, 30), true)
		checkQuit(t, p, 30, c.flight, placeOf(9000, c.left, 20), true)
	}
	for _, flight := range []int64{-1, -1000, 1000000001, math.MinInt64, math.MaxInt64} {
		checkNoQuit(t, p, 20, flight)
		checkNoQuit(t, p, 30, flight)
		checkNoQuit(t, p, 25, flight)
	}
	none := placeOf(9000, 0, 20)
	checkQuit(t, none, 20, 0, placeOf(9000, 0), true)
	checkQuit(t, none, 20, 1, placeOf(9000, 0), true)
	checkQuit(t, none, 20, 1000000000, placeOf(9000, 0), true)
	much := placeOf(3000, 1000000000, 20)
	checkQuit(t, much, 20, 0, placeOf(3000, 1000000000), true)
	checkQuit(t, much, 20, 999999999, placeOf(3000, 1), true)
	checkQuit(t, much, 20, 1000000000, placeOf(3000, 0), true)
	checkNoQuit(t, much, 20, 1000000001)
}

// Whoever quits, all others stay, and in their order.
func TestEachQuits(t *testing.T) {
	for n := 1; n <= 50; n++ {
		p := placeOfMany(n)
		for i, id := range p.Members {
			others := slices.Delete(slices.Clone(p.Members), i, i+1)
			checkQuit(t, p, id, 1500, placeOf(90000, 2500, others...), true)
		}
	}
	for _, backwards := range []bool{false, true} {
		p := placeOfMany(50)
		order := slices.Clone(p.Members)
		if backwards {
			slices.Reverse(order)
		}
		for _, id := range order {
			p = checkQuitting(t, p, id, 0)
		}
		if len(p.Members) > 0 {
			t.Fatal(p)
		}
	}
}

func TestRoomByHand(t *testing.T) {
	p := placeOf(9000, 0, 20)
	for _, n := range []int64{1, 2, 1499, 1500} {
		checkRoom(t, p, n, true)
		checkClaim(t, p, n, placeOf(9000, n, 20), true)
	}
	for _, n := range append(noSegments(), -1500, 1501, 9000) {
		checkNoRoom(t, p, n)
	}
	// Nobody need be a member.
	checkClaim(t, placeOf(9000, 0), 700, placeOf(9000, 700), true)
}

func TestRoomToTheWindow(t *testing.T) {
	for _, window := range []int64{3000, 3001, 9000, 60000, 999999999, 1000000000} {
		for _, n := range []int64{1, 2, 700, 1499, 1500} {
			checkClaim(t, placeOf(window, window-n-1, 20), n, placeOf(window, window-1, 20), true)
			checkClaim(t, placeOf(window, window-n, 20), n, placeOf(window, window, 20), true)
			checkRoom(t, placeOf(window, window-n-1, 20), n, true)
			checkRoom(t, placeOf(window, window-n, 20), n, true)
			checkNoRoom(t, placeOf(window, window-n+1, 20), n)
			checkNoRoom(t, placeOf(window, window, 20), n)
			checkNoRoom(t, placeOf(window, min(window+1, 1000000000), 20), n)
			checkNoRoom(t, placeOf(window, 1000000000, 20), n)
		}
	}
}

// What is claimed byte by byte fills the window, and not more.
func TestClaimToTheWindow(t *testing.T) {
	for _, n := range []int64{1, 7, 1499, 1500} {
		p := placeOf(3001, 0, 20, 30)
		claims := int64(0)
		for {
			next, ok := checkClaiming(t, p, n)
			if !ok {
				break
			}
			p = next
			claims++
		}
		if claims != 3001/n || p.Flight != claims*n {
			t.Fatal(n, claims, p)
		}
	}
}

func TestFlightOfFree(t *testing.T) {
	p := placeOf(9000, 1000, 20, 30)
	for _, c := range []struct{ n, left, window int64 }{
		{1, 999, 9000}, {5, 995, 9000}, {6, 994, 9001}, {999, 1, 9166}, {1000, 0, 9166}, {1001, 0, 9166},
		{9000, 0, 10500}, {999999999, 0, 166675666}, {1000000000, 0, 166675666},
	} {
		checkFree(t, p, c.n, false, placeOf(c.window, c.left, 20, 30))
		checkFree(t, p, c.n, true, placeOf(4500, c.left, 20, 30))
	}
	for _, n := range []int64{0, -1, -1000, 1000000001, math.MinInt64, math.MaxInt64} {
		checkNoFree(t, p, n)
	}
	none := placeOf(9000, 0)
	checkFree(t, none, 1, false, placeOf(9000, 0))
	checkFree(t, none, 1, true, placeOf(4500, 0))
	much := placeOf(6001, 1000000000, 20)
	checkFree(t, much, 1, true, placeOf(3000, 999999999, 20))
	checkFree(t, much, 999999999, true, placeOf(3000, 1, 20))
	checkFree(t, much, 1000000000, true, placeOf(3000, 0, 20))
}

func TestWindowOfLoss(t *testing.T) {
	for _, c := range []struct{ window, want int64 }{
		{3000, 3000}, {3001, 3000}, {4500, 3000}, {5998, 3000}, {5999, 3000}, {6000, 3000}, {6001, 3000}, {6002, 3001},
		{6003, 3001}, {9000, 4500}, {9001, 4500}, {60000, 30000}, {999999999, 499999999}, {1000000000, 500000000},
	} {
		for _, n := range []int64{1, 1500, 1000000000} {
			checkFree(t, placeOf(c.window, 0, 20), n, true, placeOf(c.want, 0, 20))
			checkFree(t, placeOf(c.window, 1000000000, 20), n, true, placeOf(c.want, 1000000000-n, 20))
		}
	}
}

// A loss upon another one, down to the least window.
func TestLossesOfAPlace(t *testing.T) {
	p := placeOf(1000000000, 40, 20)
	for losses := int64(1); losses <= 40; losses++ {
		p = checkFreeing(t, p, 1, true)
		if p.Window != max(int64(1000000000)>>losses, 3000) || p.Flight != 40-losses {
			t.Fatal(losses, p)
		}
	}
}

func TestWindowOfFree(t *testing.T) {
	for _, c := range []struct{ window, n, want int64 }{
		{3000, 1, 3000}, {3000, 2, 3001}, {3000, 3, 3001}, {3000, 4, 3002}, {3000, 1500, 3750}, {3000, 3000, 4500},
		{3001, 2, 3001}, {3001, 3, 3002}, {3001, 3001, 4501},
		{9000, 5, 9000}, {9000, 6, 9001}, {9000, 7, 9001}, {9000, 11, 9001}, {9000, 12, 9002}, {9000, 1500, 9250},
		{7000, 1500, 7321}, {7000, 4, 7000}, {7000, 5, 7001}, {7000, 6999, 8499}, {7000, 7000, 8500}, {7000, 7001, 8500},
		{3000, 1000000000, 500003000}, {1500000, 999, 1500000}, {1500000, 1000, 1500001}, {1500000, 1999, 1500001},
		{1500000, 1000000000, 2500000}, {999999999, 666666, 999999999}, {999999999, 666667, 1000000000},
	} {
		checkFree(t, placeOf(c.window, 0, 20), c.n, false, placeOf(c.want, 0, 20))
		checkFree(t, placeOf(c.window, 1000000000), c.n, false, placeOf(c.want, 1000000000-c.n))
	}
}

// Where the window comes to MaxWindow, just less, and where it would come to more.
func TestFreeAtMaxWindow(t *testing.T) {
	for below := int64(0); below <= 1500; below++ {
		window := 1000000000 - below
		// The least n that brings so many bytes more.
		n := (below*window + 1499) / 1500
		if below > 0 {
			checkFree(t, placeOf(window, 0), n-1, false, placeOf(999999999, 0))
			checkFree(t, placeOf(window, 0), n, false, placeOf(1000000000, 0))
		}
		for _, more := range []int64{1, 666666, 666667, 1000000, 1000000000} {
			got := checkFreeing(t, placeOf(window, 0), min(n+more, 1000000000), false)
			if got.Window > 1000000000 || n+more <= 1000000000 && got.Window != 1000000000 {
				t.Fatal(window, n+more, got)
			}
		}
	}
	// A small window never comes near to it, however much is freed.
	checkFree(t, placeOf(3000, 5), 1000000000, false, placeOf(500003000, 0))
	checkFree(t, placeOf(998497000, 5), 1000000000, false, placeOf(998498502, 0))
	checkFree(t, placeOf(1000000000, 5), 1000000000, false, placeOf(1000000000, 0))
	checkFree(t, placeOf(1000000000, 5), 1, false, placeOf(1000000000, 4))
}

// Each window's worth that comes through brings a segment more.
func TestFreedWindowBringsASegment(t *testing.T) {
	for _, window := range []int64{3000, 3001, 7777, 60000, 1234567, 999998500, 999998501, 1000000000} {
		got := checkFreeing(t, placeOf(window, window, 20), window, false)
		if got.Window != min(window+1500, 1000000000) || got.Flight != 0 {
			t.Fatal(window, got)
		}
	}
}

func TestEachWindowOfAPlace(t *testing.T) {
	for window := int64(3000); window <= 12500; window++ {
		p := placeOf(window, window/2, 20, 30, 40)
		checkPlace(t, p, 30, window/3, 1+window%1500)
		checkFreeing(t, p, window-3000+1, false)
		checkFreeing(t, p, window-3000+1, true)
		checkFreeing(t, p, (window+1499)/1500, false)
		checkFreeing(t, p, (window+1499)/1500-1, false)
	}
}

func TestShareByHand(t *testing.T) {
	for _, window := range []int64{3000, 3001, 9000, 1000000000} {
		checkShare(t, placeOf(window, 0), window)
		checkShare(t, impl.Place{Window: window, Members: []int64{}}, window)
		checkShare(t, placeOf(window, 1000000000), window)
		checkShare(t, placeOf(window, 0, 0), window)
		checkShare(t, placeOf(window, 0, 20), window)
	}
	for _, c := range []struct{ window, want int64 }{
		{3000, 3000}, {8997, 3000}, {8999, 3000}, {9000, 3000}, {9001, 3000}, {9002, 3000}, {9003, 3001}, {9005, 3001},
		{10000, 3333}, {10001, 3333}, {10002, 3334}, {1000000000, 333333333},
	} {
		checkShare(t, placeOf(c.window, 500, 1, 2, 3), c.want)
	}
	checkShare(t, withWindow(placeOfMany(50), 1000000000), 20000000)
	checkShare(t, withWindow(placeOfMany(49), 1000000000), 20408163)
	checkShare(t, placeOfMany(51), -1)
	checkShare(t, impl.Place{}, -1)
}

// Where Window / members is just MinWindow, one less and one more.
func TestShareAtMinWindow(t *testing.T) {
	for n := int64(1); n <= 50; n++ {
		p := placeOfMany(int(n))
		for rest := range n {
			checkShare(t, withWindow(p, 3000*n+rest), 3000)
			checkShare(t, withWindow(p, 3001*n+rest), 3001)
			if n > 1 {
				checkShare(t, withWindow(p, 2999*n+rest), 3000)
			}
		}
	}
}

// Joined in any order, the list is the same, and so it is when they quit again.
func TestEveryOrderOfJoins(t *testing.T) {
	ids := []int64{0, 3, 4, 70, 1000000}
	var try func(p impl.Place, rest []int64)
	count := 0
	try = func(p impl.Place, rest []int64) {
		if len(rest) == 0 {
			count++
			if !slices.Equal(p.Members, ids) {
				t.Fatal(p)
			}
		}
		for i, id := range rest {
			next := checkJoining(t, p, id)
			try(next, slices.Delete(slices.Clone(rest), i, i+1))
			checkQuit(t, next, id, 0, p, true)
		}
	}
	try(placeOf(9000, 1000), ids)
	if count != 120 {
		t.Fatal(count)
	}
}

// A placeRow goes on from an empty Place. Beside it stands a plain account: who
// is a member and what each of them has in flight.
type placeRow struct {
	t      *testing.T
	state  uint64
	place  impl.Place
	window int64
	flight map[int64]int64
	met    map[string]int
}

func newPlaceRow(t *testing.T, seed uint64, window int64) *placeRow {
	return &placeRow{t: t, state: seed, place: placeOf(window, 0), window: window, flight: map[int64]int64{}, met: map[string]int{}}
}

// check wants every field to be what the account tells.
func (r *placeRow) check() {
	r.t.Helper()
	sum := int64(0)
	for _, flight := range r.flight {
		sum += flight
	}
	want := placeOf(r.window, sum, slices.Sorted(maps.Keys(r.flight))...)
	if !isSamePlace(r.place, want) {
		r.t.Fatalf("%+v, not %+v", r.place, want)
	}
	checkPlaceOk(r.t, r.place, true)
	checkShare(r.t, r.place, wantShare(want))
}

// anyMember is one of them, or -1 where there is none.
func (r *placeRow) anyMember() int64 {
	if len(r.flight) == 0 {
		return -1
	}
	return slices.Sorted(maps.Keys(r.flight))[mixed(&r.state)%int64(len(r.flight))]
}

func (r *placeRow) join(id int64) {
	_, is := r.flight[id]
	if is || len(r.flight) == 50 {
		checkNoJoin(r.t, r.place, id)
		r.met["no join"]++
		return
	}
	r.place = checkJoining(r.t, r.place, id)
	r.flight[id] = 0
	r.met["join"]++
}

func (r *placeRow) quit(id int64) {
	flight, is := r.flight[id]
	if !is {
		checkNoQuit(r.t, r.place, id, 0)
		r.met["no quit"]++
		return
	}
	r.place = checkQuitting(r.t, r.place, id, flight)
	delete(r.flight, id)
	r.met["quit"]++
}

func (r *placeRow) claim(id int64, n int64) {
	next, ok := checkClaiming(r.t, r.place, n)
	if !ok {
		r.met["no claim"]++
		return
	}
	r.place = next
	r.flight[id] += n
	r.met["claim"]++
	if next.Flight == next.Window {
		r.met["claim to the window"]++
	}
}

func (r *placeRow) free(id int64, n int64, lost bool) {
	before := r.place
	r.place = checkFreeing(r.t, before, n, lost)
	r.flight[id] -= n
	if lost {
		r.window = max(r.window/2, 3000)
		r.met["loss"]++
		if r.place.Flight > r.place.Window {
			r.met["more in flight than the window"]++
		}
		return
	}
	r.window = min(r.window+n*1500/r.window, 1000000000)
	r.met["free"]++
	if r.place.Window == before.Window {
		r.met["free that brings nothing"]++
	}
}

func (r *placeRow) move(ids int64, losses int64) {
	r.t.Helper()
	s := &r.state
	id := r.anyMember()
	switch mixed(s) % 12 {
	case 0, 1:
		r.join(mixed(s) % ids)
	case 2:
		r.quit(mixed(s) % ids)
	case 3, 4, 5, 6, 7:
		if id >= 0 {
			r.claim(id, bounded([]int64{1 + mixed(s)%1500, 1500, r.place.Window - r.place.Flight}[mixed(s)%3], 1, 1500))
		}
	default:
		if id >= 0 && r.flight[id] > 0 {
			n := min(1+mixed(s)%3000, r.flight[id])
			r.free(id, n, mixed(s)%losses == 0)
		}
	}
	r.check()
}

func TestPlaceRows(t *testing.T) {
	met := map[string]int{}
	for k := range 120 {
		r := newPlaceRow(t, uint64(5000+k), []int64{3000, 3001, 60000, 999999000}[k%4])
		r.met = met
		ids := []int64{4, 60, 300, 1000001}[k/4%4]
		for range 500 {
			r.move(ids, []int64{5, 30}[k%2])
		}
		// All quit in the end: nothing is in flight, and nobody is left.
		for _, id := range slices.Sorted(maps.Keys(r.flight)) {
			r.quit(id)
			r.check()
		}
		if r.place.Flight != 0 || len(r.place.Members) > 0 {
			t.Fatal(r.place)
		}
	}
	for _, name := range []string{
		"join", "no join", "quit", "no quit", "claim", "no claim", "claim to the window",
		"free", "free that brings nothing", "loss", "more in flight than the window",
	} {
		if met[name] < 50 {
			t.Errorf("%s: met %d times", name, met[name])
		}
	}
}

// Many that join, and few that quit: the Place is full most of the time.
func TestRowOfAFullPlace(t *testing.T) {
	r := newPlaceRow(t, 131, 200000)
	full := 0
	for range 3000 {
		if mixed(&r.state)%3 == 0 {
			r.quit(r.anyMember())
		}
		r.join(mixed(&r.state) % 120)
		r.join(mixed(&r.state) % 1000001)
		r.move(120, 10)
		if len(r.place.Members) == 50 {
			full++
		}
	}
	if full < 500 || r.met["no join"] < 500 || r.met["quit"] < 500 {
		t.Fatal(full, r.met)
	}
}

// What is claimed piece by piece is freed piece by piece, whatever the pieces are.
func TestAllThatIsClaimedIsFreed(t *testing.T) {
	state := uint64(132)
	for range 200 {
		p := placeOf(3000+mixed(&state)%200000, 0, 20, 30)
		var claims []int64
		for {
			n := anySize(&state)
			next, ok := checkClaiming(t, p, n)
			if !ok {
				break
			}
			p = next
			claims = append(claims, n)
		}
		if sumOf(claims) != p.Flight || p.Flight+1500 <= p.Window {
			t.Fatal(p, claims)
		}
		for len(claims) > 0 {
			i := int(mixed(&state) % int64(len(claims)))
			p = checkFreeing(t, p, claims[i], mixed(&state)%20 == 0)
			claims = slices.Delete(claims, i, i+1)
			if p.Flight != sumOf(claims) {
				t.Fatal(p, claims)
			}
		}
	}
}

// anyPlace is right, but for one thing at times that is a little wrong.
func anyPlace(state *uint64) impl.Place {
	p := placeOf(anyWindow(state, 3000), anyWindow(state, 0))
	if mixed(state)%3 == 0 {
		p.Flight = bounded(p.Window-mixed(state)%2000+5, 0, 1000000000)
	}
	id := mixed(state) % 5
	for range []int64{0, 1, 2, 5, 20, 49, 50, 51}[mixed(state)%8] {
		p.Members = append(p.Members, id)
		id += 1 + mixed(state)%[]int64{1, 3, 10000}[mixed(state)%3]
	}
	i := mixed(state) % int64(len(p.Members)+1)
	hasMember := i < int64(len(p.Members))
	switch mixed(state) % 16 {
	case 0:
		p.Window = []int64{2999, 1000000001}[mixed(state)%2]
	case 1:
		p.Flight = []int64{-1, 1000000001}[mixed(state)%2]
	case 2:
		if hasMember {
			p.Members[i] += mixed(state)%7 - 3
		}
	case 3:
		if hasMember {
			p.Members[i] = []int64{-1, 1000001}[mixed(state)%2]
		}
	}
	return p
}

func TestMixedPlaces(t *testing.T) {
	state := uint64(133)
	right, wrong := 0, 0
	for range 20000 {
		p := anyPlace(&state)
		id := mixed(&state) % 1000002
		if len(p.Members) > 0 && mixed(&state)%2 == 0 {
			id = p.Members[mixed(&state)%int64(len(p.Members))] + mixed(&state)%3 - 1
		}
		n := beside(&state, 1, 1500, p.Window-p.Flight, mixed(&state)%1500, p.Flight, 1000000000, mixed(&state)%1000000000)
		flight := beside(&state, 0, p.Flight, 1000000000, mixed(&state)%1000000000)
		checkPlace(t, p, id, flight, n)
		if wantPlaceOk(p) {
			right++
		} else {
			wrong++
			checkNoPlace(t, p)
		}
	}
	if right < 10000 || wrong < 2000 {
		t.Fatal("too few of a kind were met:", right, wrong)
	}
}

func TestPlacesAtEveryArgument(t *testing.T) {
	for _, p := range []impl.Place{placeOf(9000, 1000), placeOf(9000, 1000, 0, 20, 1000000), placeOfMany(50)} {
		for _, a := range append(edges(), 20, 1000000, 1000001) {
			checkPlace(t, p, a, a, a)
			for _, b := range edges() {
				checkPlace(t, p, a, b, b)
				checkPlace(t, p, 20, a, b)
				checkPlace(t, withWindow(p, a), 20, b, b)
				checkPlace(t, withWindow(p, a), b, 0, 1500)
				checkPlace(t, withFlight(p, a), 20, b, b)
				checkPlace(t, withFlight(withWindow(p, a), b), 20, 0, 1500)
				checkPlace(t, withMembers(p, a), b, 0, b)
				checkPlace(t, withMembers(p, a, b), a, b, 1500)
				checkPlace(t, withMembers(p, 20, a, b), b, 0, 1500)
			}
		}
	}
}

// checkPlaceAnswer spoils an answer, and wants another one and the argument to
// be as they were; then it spoils the argument, and wants the other one to stay.
func checkPlaceAnswer(t *testing.T, name string, given impl.Place, act func(impl.Place) impl.Place) {
	t.Helper()
	room, whole := sizesWithRoom(given.Members)
	p := withMembers(given, room...)
	before := slices.Clone(whole)
	first, second := act(p), act(p)
	want := copiedPlace(second)
	if !isSamePlace(first, want) {
		t.Fatalf("%s: %+v, then %+v", name, first, second)
	}
	spoil(first.Members, -9)
	if !slices.Equal(whole, before) {
		t.Fatalf("%s: %+v was written into: %v, not %v", name, given, whole, before)
	}
	if !isSamePlace(second, want) {
		t.Fatalf("%s: %+v is %+v when another answer is written into", name, want, second)
	}
	spoil(whole, -7)
	if !isSamePlace(second, want) {
		t.Fatalf("%s: %+v is %+v when the argument is written into", name, want, second)
	}
}

func checkPlaceMemory(t *testing.T, p impl.Place, id int64, n int64) {
	t.Helper()
	checkPlaceAnswer(t, "Join", p, func(p impl.Place) impl.Place {
		next, _ := impl.Join(p, id)
		return next
	})
	checkPlaceAnswer(t, "Quit", p, func(p impl.Place) impl.Place {
		next, _ := impl.Quit(p, id, n)
		return next
	})
	checkPlaceAnswer(t, "Claim", p, func(p impl.Place) impl.Place {
		next, _ := impl.Claim(p, n)
		return next
	})
	checkPlaceAnswer(t, "Free", p, func(p impl.Place) impl.Place { return impl.Free(p, n, false) })
	checkPlaceAnswer(t, "Free lost", p, func(p impl.Place) impl.Place { return impl.Free(p, n, true) })
	checkPlaceAnswer(t, "PlaceOk, Room and Share", p, func(p impl.Place) impl.Place {
		impl.PlaceOk(p)
		impl.Room(p, n)
		impl.Share(p)
		return impl.Place{}
	})
}

func TestPlaceMemory(t *testing.T) {
	for _, count := range []int{0, 1, 2, 3, 4, 7, 8, 48, 49, 50, 51} {
		p := placeOfMany(count)
		for _, id := range append(noIds(), aroundMembers(p)...) {
			for _, n := range []int64{-1, 0, 1, 1500, 1501, 100000} {
				checkPlaceMemory(t, p, id, n)
			}
		}
	}
	checkPlaceMemory(t, impl.Place{}, 5, 1)
	checkPlaceMemory(t, placeOf(9000, 0, 7, 5), 6, 1)
}

// An empty list with room behind it is no other value than nil, and its room
// stays as it is.
func TestEmptyMembersWithRoom(t *testing.T) {
	room := []int64{71, 72, 73}
	p := impl.Place{Window: 9000, Flight: 1000, Members: room[:0]}
	checkRightPlace(t, p)
	joined, _ := impl.Join(p, 5)
	claimed, _ := impl.Claim(p, 100)
	freed := impl.Free(p, 100, true)
	for _, q := range []impl.Place{joined, claimed, freed} {
		q.Members = append(q.Members, 9)
		spoil(q.Members, -9)
	}
	if !slices.Equal(room, []int64{71, 72, 73}) {
		t.Fatal(room)
	}
}

// Places that were made of one have nothing to do with each other.
func TestPlacesOfOne(t *testing.T) {
	p := placeOf(9000, 0, 20, 40)
	a, _ := impl.Join(p, 30)
	b, _ := impl.Join(p, 50)
	c, _ := impl.Quit(a, 20, 0)
	d, _ := impl.Claim(a, 1500)
	e := impl.Free(d, 1500, true)
	f, _ := impl.Join(d, 10)
	for _, got := range []struct{ place, want impl.Place }{
		{p, placeOf(9000, 0, 20, 40)},
		{a, placeOf(9000, 0, 20, 30, 40)},
		{b, placeOf(9000, 0, 20, 40, 50)},
		{c, placeOf(9000, 0, 30, 40)},
		{d, placeOf(9000, 1500, 20, 30, 40)},
		{e, placeOf(4500, 0, 20, 30, 40)},
		{f, placeOf(9000, 1500, 10, 20, 30, 40)},
	} {
		if !isSamePlace(got.place, got.want) {
			t.Fatalf("%+v, not %+v", got.place, got.want)
		}
	}
}

// What one call answers hangs on no other call, however many there are at once.
func TestPlacesAtOnce(t *testing.T) {
	var workers sync.WaitGroup
	wrong := make([]int, 8)
	shared := placeOfMany(30)
	for k := range wrong {
		workers.Go(func() {
			state := uint64(134 + k)
			for range 1000 {
				id, n := mixed(&state)%700, 1+mixed(&state)%1500
				joined, ok := impl.Join(shared, id)
				wantJoined, wantOk := wantJoin(shared, id)
				left, gone := impl.Quit(shared, id, n)
				wantLeft, wantGone := wantQuit(shared, id, n)
				if ok != wantOk || gone != wantGone || !isSamePlace(joined, wantJoined) || !isSamePlace(left, wantLeft) {
					wrong[k]++
				}
				if !isSamePlace(impl.Free(shared, n, k%2 == 0), wantFree(shared, n, k%2 == 0)) {
					wrong[k]++
				}
			}
		})
	}
	workers.Wait()
	if slices.Max(wrong) > 0 {
		t.Fatal(wrong)
	}
}
