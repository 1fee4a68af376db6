package tests

import (
	"runtime"
	"slices"
	"testing"

	"loop.example/g00147/impl"
)

func flowOf(quantum int64, deficit int64, sizes ...int64) impl.Flow {
	return impl.Flow{Quantum: quantum, Deficit: deficit, Sizes: sizes}
}

// freshTurns begin with the first flow.
func freshTurns(flows ...impl.Flow) impl.Turns { return impl.Turns{Flows: flows, Fresh: true} }

// turnsAt are those where a flow has had its quantum.
func turnsAt(at int64, flows ...impl.Flow) impl.Turns { return impl.Turns{Flows: flows, At: at} }

func flowsOf(n int, flow impl.Flow) []impl.Flow {
	var flows []impl.Flow
	for range n {
		flows = append(flows, copiedFlow(flow))
	}
	return flows
}

func manySizes(n int, size int64) []int64 { return slices.Repeat([]int64{size}, n) }

func copiedFlow(f impl.Flow) impl.Flow { return flowOf(f.Quantum, f.Deficit, slices.Clone(f.Sizes)...) }

func copiedTurns(x impl.Turns) impl.Turns {
	x.Flows = slices.Clone(x.Flows)
	for i, f := range x.Flows {
		x.Flows[i] = copiedFlow(f)
	}
	return x
}

// changedTurns leaves those that it is given as they are.
func changedTurns(x impl.Turns, change func(*impl.Turns)) impl.Turns {
	x = copiedTurns(x)
	change(&x)
	return x
}

func isSameFlow(a impl.Flow, b impl.Flow) bool {
	return a.Quantum == b.Quantum && a.Deficit == b.Deficit && slices.Equal(a.Sizes, b.Sizes)
}

func isSameTurns(a impl.Turns, b impl.Turns) bool {
	return a.At == b.At && a.Fresh == b.Fresh && slices.EqualFunc(a.Flows, b.Flows, isSameFlow)
}

func isSizeByWords(n int64) bool { return n >= 1 && n <= 1500 }

func isFlowByWords(f impl.Flow) bool {
	if f.Quantum < 1500 || f.Quantum > billion || len(f.Sizes) > 100 {
		return false
	}
	for _, n := range f.Sizes {
		if !isSizeByWords(n) {
			return false
		}
	}
	return isOf(f.Deficit, f.Quantum+1500) && (len(f.Sizes) > 0 || f.Deficit == 0)
}

func wantTurnsOk(x impl.Turns) bool {
	if len(x.Flows) < 1 || len(x.Flows) > 30 || x.At < 0 || x.At >= int64(len(x.Flows)) {
		return false
	}
	for i, f := range x.Flows {
		isOther := int64(i) != x.At
		if !isFlowByWords(f) || (isOther || x.Fresh) && f.Deficit >= 1500 {
			return false
		}
	}
	return true
}

func hasFlowByWords(x impl.Turns, i int64) bool { return i >= 0 && i < int64(len(x.Flows)) }

func wantQueue(x impl.Turns, i int64, n int64) (impl.Turns, bool) {
	if !wantTurnsOk(x) || !hasFlowByWords(x, i) || !isSizeByWords(n) || len(x.Flows[i].Sizes) >= 100 {
		return impl.Turns{}, false
	}
	x = copiedTurns(x)
	x.Flows[i].Sizes = append(x.Flows[i].Sizes, n)
	return x, true
}

func areAllEmpty(x impl.Turns) bool {
	return !slices.ContainsFunc(x.Flows, func(f impl.Flow) bool { return len(f.Sizes) > 0 })
}

// serveStep does with flow At what the document says, and tells a size or 0.
func serveStep(x *impl.Turns) int64 {
	f := &x.Flows[x.At]
	if len(f.Sizes) > 0 {
		if x.Fresh {
			f.Deficit += f.Quantum
			x.Fresh = false
		}
		if n := f.Sizes[0]; n <= f.Deficit {
			f.Sizes = slices.Delete(f.Sizes, 0, 1)
			f.Deficit -= n
			if len(f.Sizes) == 0 {
				f.Deficit = 0
			}
			return n
		}
	}
	x.At++
	if x.At == int64(len(x.Flows)) {
		x.At = 0
	}
	x.Fresh = true
	return 0
}

// wantServe goes from flow to flow, one step at a time.
func wantServe(x impl.Turns) (impl.Turns, int64, int64) {
	if !wantTurnsOk(x) {
		return impl.Turns{}, -1, 0
	}
	x = copiedTurns(x)
	if areAllEmpty(x) {
		return x, -1, 0
	}
	for {
		if n := serveStep(&x); n > 0 {
			return x, x.At, n
		}
	}
}

func wantServeAll(x impl.Turns, n int64) (impl.Turns, []int64) {
	if !wantTurnsOk(x) || n < 0 || n > 3000 {
		return impl.Turns{}, nil
	}
	sums := make([]int64, len(x.Flows))
	for range n {
		next, i, size := wantServe(x)
		if i < 0 {
			break
		}
		sums[i] += size
		x = next
	}
	return x, sums
}

func wantWaiting(x impl.Turns) int64 {
	if !wantTurnsOk(x) {
		return -1
	}
	var sum int64
	for _, f := range x.Flows {
		sum += sumOf(f.Sizes)
	}
	return sum
}

func sumOf(list []int64) int64 {
	var sum int64
	for _, n := range list {
		sum += n
	}
	return sum
}

func checkTurnsOk(t *testing.T, x impl.Turns, want bool) {
	t.Helper()
	if got := impl.TurnsOk(x); got != want {
		t.Fatalf("TurnsOk(%+v) = %v, not %v", x, got, want)
	}
}

func checkQueue(t *testing.T, x impl.Turns, i int64, n int64, want impl.Turns, wantOk bool) impl.Turns {
	t.Helper()
	got, ok := impl.Queue(x, i, n)
	if !isSameTurns(got, want) || ok != wantOk {
		t.Fatalf("Queue(%+v, %d, %d) = %+v, %v, not %+v, %v", x, i, n, got, ok, want, wantOk)
	}
	return got
}

func checkServe(t *testing.T, x impl.Turns, want impl.Turns, wantFlow int64, wantSize int64) impl.Turns {
	t.Helper()
	got, flow, size := impl.Serve(x)
	if !isSameTurns(got, want) || flow != wantFlow || size != wantSize {
		t.Fatalf("Serve(%+v) = %+v, %d, %d, not %+v, %d, %d", x, got, flow, size, want, wantFlow, wantSize)
	}
	return got
}

func checkServeAll(t *testing.T, x impl.Turns, n int64, want impl.Turns, wantSums ...int64) impl.Turns {
	t.Helper()
	got, sums := impl.ServeAll(x, n)
	if !isSameTurns(got, want) || !slices.Equal(sums, wantSums) {
		t.Fatalf("ServeAll(%+v, %d) = %+v, %v, not %+v, %v", x, n, got, sums, want, wantSums)
	}
	return got
}

func checkWaiting(t *testing.T, x impl.Turns, want int64) {
	t.Helper()
	if got := impl.Waiting(x); got != want {
		t.Fatalf("Waiting(%+v) = %d, not %d", x, got, want)
	}
}

func checkAnyQueue(t *testing.T, x impl.Turns, i int64, n int64) (impl.Turns, bool) {
	t.Helper()
	want, wantOk := wantQueue(x, i, n)
	return checkQueue(t, x, i, n, want, wantOk), wantOk
}

func checkAnyServe(t *testing.T, x impl.Turns) (impl.Turns, int64, int64) {
	t.Helper()
	want, flow, size := wantServe(x)
	return checkServe(t, x, want, flow, size), flow, size
}

func checkAnyServeAll(t *testing.T, x impl.Turns, n int64) (impl.Turns, []int64) {
	t.Helper()
	want, sums := wantServeAll(x, n)
	return checkServeAll(t, x, n, want, sums...), sums
}

// checkTurns holds all functions against the plain account at one place.
func checkTurns(t *testing.T, x impl.Turns, i int64, n int64) {
	t.Helper()
	checkTurnsOk(t, x, wantTurnsOk(x))
	checkWaiting(t, x, wantWaiting(x))
	checkAnyQueue(t, x, i, n)
	checkAnyServe(t, x)
	checkAnyServeAll(t, x, n)
}

// checkNoTurns wants the fixed answers for Turns that are not right.
func checkNoTurns(t *testing.T, x impl.Turns) {
	t.Helper()
	checkTurnsOk(t, x, false)
	checkQueue(t, x, 0, 1, impl.Turns{}, false)
	checkServe(t, x, impl.Turns{}, -1, 0)
	checkServeAll(t, x, 0, impl.Turns{})
	checkServeAll(t, x, 3000, impl.Turns{})
	checkWaiting(t, x, -1)
}

// checkRightTurns wants Turns to be right, and holds all against the account.
func checkRightTurns(t *testing.T, x impl.Turns) {
	t.Helper()
	checkTurnsOk(t, x, true)
	for i := range x.Flows {
		checkTurns(t, x, int64(i), 1)
	}
	checkTurns(t, x, 0, 3000)
}

func checkIsRight(t *testing.T, x impl.Turns, is bool) {
	t.Helper()
	if is {
		checkRightTurns(t, x)
	} else {
		checkNoTurns(t, x)
	}
}

func TestTurnLimits(t *testing.T) {
	if impl.MaxQueue != 100 || impl.MaxFlows != 30 {
		t.Fatal(impl.MaxQueue, impl.MaxFlows)
	}
}

func TestServeByHand(t *testing.T) {
	x := freshTurns(flowOf(1500, 0, 1000, 900, 800), flowOf(3000, 0, 1500, 1400))
	x = checkServe(t, x, turnsAt(0, flowOf(1500, 500, 900, 800), flowOf(3000, 0, 1500, 1400)), 0, 1000)
	// 900 are more than the 500 that it has left, and the other one is next.
	x = checkServe(t, x, turnsAt(1, flowOf(1500, 500, 900, 800), flowOf(3000, 1500, 1400)), 1, 1500)
	// With its last size a flow loses what it has left.
	x = checkServe(t, x, turnsAt(1, flowOf(1500, 500, 900, 800), flowOf(3000, 0)), 1, 1400)
	// What it had left is kept to the next turn, and its quantum comes to it.
	x = checkServe(t, x, turnsAt(0, flowOf(1500, 1100, 800), flowOf(3000, 0)), 0, 900)
	x = checkServe(t, x, turnsAt(0, flowOf(1500, 0), flowOf(3000, 0)), 0, 800)
	checkServe(t, x, x, -1, 0)
}

func TestServeThreeByHand(t *testing.T) {
	x := impl.Turns{Fresh: true, At: 2, Flows: []impl.Flow{
		flowOf(1500, 0, 700, 700, 700), flowOf(2000, 0), flowOf(2500, 0, 1200, 1200, 1200),
	}}
	order := [][2]int64{{2, 1200}, {2, 1200}, {0, 700}, {0, 700}, {2, 1200}, {0, 700}}
	deficits := [][3]int64{{0, 0, 1300}, {0, 0, 100}, {800, 0, 100}, {100, 0, 100}, {100, 0, 0}, {0, 0, 0}}
	for k, want := range order {
		next, flow, size := checkAnyServe(t, x)
		if flow != want[0] || size != want[1] || next.At != flow || next.Fresh {
			t.Fatal(k, flow, size, next)
		}
		for i, d := range deficits[k] {
			if next.Flows[i].Deficit != d {
				t.Fatal(k, next)
			}
		}
		x = next
	}
}

func TestServeOfOneFlow(t *testing.T) {
	x := freshTurns(flowOf(1500, 0, 1500, 1, 1500, 1500))
	x = checkServe(t, x, turnsAt(0, flowOf(1500, 0, 1, 1500, 1500)), 0, 1500)
	// Behind the last flow comes the first, which is the same one here.
	x = checkServe(t, x, turnsAt(0, flowOf(1500, 1499, 1500, 1500)), 0, 1)
	x = checkServe(t, x, turnsAt(0, flowOf(1500, 1499, 1500)), 0, 1500)
	x = checkServe(t, x, turnsAt(0, flowOf(1500, 0)), 0, 1500)
	checkServe(t, x, x, -1, 0)
}

func TestQueueByHand(t *testing.T) {
	x := freshTurns(flowOf(1500, 0), flowOf(1600, 0))
	x = checkQueue(t, x, 1, 7, freshTurns(flowOf(1500, 0), flowOf(1600, 0, 7)), true)
	x = checkQueue(t, x, 1, 5, freshTurns(flowOf(1500, 0), flowOf(1600, 0, 7, 5)), true)
	x = checkQueue(t, x, 1, 6, freshTurns(flowOf(1500, 0), flowOf(1600, 0, 7, 5, 6)), true)
	x = checkQueue(t, x, 0, 5, freshTurns(flowOf(1500, 0, 5), flowOf(1600, 0, 7, 5, 6)), true)
	checkWaiting(t, x, 23)
}

// A flow that is served all it has does not get a second quantum in its turn.
func TestQueuedInItsTurn(t *testing.T) {
	x := freshTurns(flowOf(1500, 0, 10), flowOf(1500, 0, 20))
	x = checkServe(t, x, turnsAt(0, flowOf(1500, 0), flowOf(1500, 0, 20)), 0, 10)
	x = checkQueue(t, x, 0, 11, turnsAt(0, flowOf(1500, 0, 11), flowOf(1500, 0, 20)), true)
	x = checkServe(t, x, turnsAt(1, flowOf(1500, 0, 11), flowOf(1500, 0)), 1, 20)
	checkServe(t, x, turnsAt(0, flowOf(1500, 0), flowOf(1500, 0)), 0, 11)
}

// What comes to a flow in its turn is served as far as its quantum goes.
func TestQueuedBehindWhatWaits(t *testing.T) {
	x := turnsAt(0, flowOf(1500, 30, 10), flowOf(1500, 0, 20))
	x = checkQueue(t, x, 0, 20, turnsAt(0, flowOf(1500, 30, 10, 20), flowOf(1500, 0, 20)), true)
	x = checkServe(t, x, turnsAt(0, flowOf(1500, 20, 20), flowOf(1500, 0, 20)), 0, 10)
	checkServe(t, x, turnsAt(0, flowOf(1500, 0), flowOf(1500, 0, 20)), 0, 20)
}

func TestFirstSizeAndDeficit(t *testing.T) {
	for _, d := range []int64{1, 2, 700, 1498, 1499} {
		other := flowOf(2000, 3, 9, 9)
		just := turnsAt(0, flowOf(1500, d, d, 8), other)
		checkServe(t, just, turnsAt(0, flowOf(1500, 0, 8), other), 0, d)
		more := turnsAt(0, flowOf(1500, d, d+1, 8), other)
		checkServe(t, more, turnsAt(1, flowOf(1500, d, d+1, 8), flowOf(2000, 1994, 9)), 1, 9)
		less := turnsAt(0, flowOf(1500, d+1, d, 8), other)
		checkServe(t, less, turnsAt(0, flowOf(1500, 1, 8), other), 0, d)
		// Alone it comes next itself.
		alone := turnsAt(0, flowOf(1500, d, d+1, 8))
		checkServe(t, alone, turnsAt(0, flowOf(1500, 1499, 8)), 0, d+1)
	}
	none := turnsAt(0, flowOf(1500, 0, 1, 8), flowOf(2000, 3, 9, 9))
	checkServe(t, none, turnsAt(1, flowOf(1500, 0, 1, 8), flowOf(2000, 1994, 9)), 1, 9)
}

func TestGreatestDeficit(t *testing.T) {
	x := turnsAt(0, flowOf(billion, billion+1500, 1500, 1500))
	x = checkServe(t, x, turnsAt(0, flowOf(billion, billion, 1500)), 0, 1500)
	checkServe(t, x, turnsAt(0, flowOf(billion, 0)), 0, 1500)
	x = freshTurns(flowOf(billion, 1499, 1, 1))
	checkServe(t, x, turnsAt(0, flowOf(billion, billion+1498, 1)), 0, 1)
}

func TestFlowsWithoutSizesArePassed(t *testing.T) {
	for _, fresh := range []bool{true, false} {
		x := impl.Turns{Fresh: fresh, Flows: []impl.Flow{flowOf(1500, 0), flowOf(1500, 4, 9, 9)}}
		checkServe(t, x, turnsAt(1, flowOf(1500, 0), flowOf(1500, 1495, 9)), 1, 9)
		// Behind the last one comes the first.
		x = impl.Turns{Fresh: fresh, At: 1, Flows: []impl.Flow{flowOf(1500, 4, 9, 9), flowOf(1500, 0)}}
		checkServe(t, x, turnsAt(0, flowOf(1500, 1495, 9), flowOf(1500, 0)), 0, 9)
		for n := 2; n <= 30; n++ {
			checkOneOfMany(t, n, fresh)
		}
	}
}

// checkOneOfMany wants the one flow with Sizes to be found, from whichever on.
func checkOneOfMany(t *testing.T, n int, fresh bool) {
	t.Helper()
	for i := range n {
		for at := range n {
			flows := flowsOf(n, flowOf(1500, 0))
			flows[i] = flowOf(1700, 5, 6, 7)
			next := flowsOf(n, flowOf(1500, 0))
			next[i] = flowOf(1700, 1699, 7)
			// Where it has had its quantum, the 5 left are too few, and it comes again.
			x := impl.Turns{Flows: flows, At: int64(at), Fresh: fresh}
			checkServe(t, x, turnsAt(int64(i), next...), int64(i), 6)
		}
	}
}

func TestNoFlowHasSizes(t *testing.T) {
	for _, n := range []int{1, 2, 5, 30} {
		for at := range n {
			for _, fresh := range []bool{true, false} {
				x := impl.Turns{Flows: flowsOf(n, flowOf(1500, 0)), At: int64(at), Fresh: fresh}
				checkServe(t, x, x, -1, 0)
				for _, k := range []int64{0, 1, 2, 3000} {
					checkServeAll(t, x, k, x, make([]int64, n)...)
				}
				checkWaiting(t, x, 0)
			}
		}
	}
}

func TestCountsOfFlows(t *testing.T) {
	for n := range 40 {
		x := freshTurns(flowsOf(n, flowOf(1500, 0, 1))...)
		checkIsRight(t, x, n >= 1 && n <= 30)
	}
	checkNoTurns(t, impl.Turns{})
	checkNoTurns(t, impl.Turns{Flows: []impl.Flow{}, Fresh: true})
	checkNoTurns(t, freshTurns(flowsOf(5000, flowOf(1500, 0, 1))...))
}

func TestAtIsAFlow(t *testing.T) {
	for _, n := range []int64{1, 2, 7, 30} {
		for _, fresh := range []bool{true, false} {
			for at := range n {
				checkRightTurns(t, impl.Turns{Flows: flowsOf(int(n), flowOf(1500, 9, 9)), At: at, Fresh: fresh})
			}
			for _, at := range []int64{-1, -2, -n, n, n + 1, 1 << 32, -1 << 63, 1<<63 - 1} {
				checkNoTurns(t, impl.Turns{Flows: flowsOf(int(n), flowOf(1500, 9, 9)), At: at, Fresh: fresh})
			}
		}
	}
}

// inEachPlace puts a flow among others, with each of them At, Fresh and not.
func inEachPlace(flow impl.Flow, check func(x impl.Turns, i int64)) {
	for i := range int64(3) {
		for at := range int64(3) {
			for _, fresh := range []bool{true, false} {
				x := impl.Turns{Flows: flowsOf(3, flowOf(1500, 3, 4, 5)), At: at, Fresh: fresh}
				x.Flows[i] = copiedFlow(flow)
				check(x, i)
			}
		}
	}
}

func TestQuanta(t *testing.T) {
	for _, sizes := range [][]int64{nil, {1}, {1500, 1500}} {
		for _, quantum := range append(edges(), 1499, 1500, 1501, billion-1, billion, billion+1) {
			inEachPlace(flowOf(quantum, 0, sizes...), func(x impl.Turns, i int64) {
				checkIsRight(t, x, quantum >= 1500 && quantum <= billion)
			})
		}
	}
}

func TestDeficits(t *testing.T) {
	for _, quantum := range []int64{1500, 1501, 70000, billion} {
		list := append(edges(), -1, 0, 1, 1499, 1500, 1501, quantum, quantum+1499, quantum+1500, quantum+1501)
		for _, deficit := range list {
			inEachPlace(flowOf(quantum, deficit, 2, 3), func(x impl.Turns, i int64) {
				most := int64(1499)
				if x.At == i && !x.Fresh {
					most = quantum + 1500
				}
				checkIsRight(t, x, deficit >= 0 && deficit <= most)
			})
			inEachPlace(flowOf(quantum, deficit), func(x impl.Turns, i int64) {
				checkIsRight(t, x, deficit == 0)
			})
		}
	}
}

func TestDeficitsByHand(t *testing.T) {
	others := flowOf(1500, 0, 1)
	checkTurnsOk(t, turnsAt(0, flowOf(1500, 3000, 1), others), true)
	checkTurnsOk(t, turnsAt(0, flowOf(1500, 3001, 1), others), false)
	checkTurnsOk(t, freshTurns(flowOf(1500, 1499, 1), others), true)
	checkTurnsOk(t, freshTurns(flowOf(1500, 1500, 1), others), false)
	checkTurnsOk(t, turnsAt(1, flowOf(1500, 1499, 1), others), true)
	checkTurnsOk(t, turnsAt(1, flowOf(1500, 1500, 1), others), false)
	checkTurnsOk(t, turnsAt(0, flowOf(1500, 1500, 1), others), true)
	checkTurnsOk(t, turnsAt(0, flowOf(1500, 1), others), false)
	checkTurnsOk(t, turnsAt(0, flowOf(1500, -1, 1), others), false)
}

func TestSizesOfAFlow(t *testing.T) {
	for _, n := range append(edges(), -1, 0, 1, 2, 1499, 1500, 1501) {
		for place := range 4 {
			sizes := []int64{5, 6, 7, 8}
			sizes[place] = n
			inEachPlace(flowOf(2000, 0, sizes...), func(x impl.Turns, i int64) {
				checkIsRight(t, x, n >= 1 && n <= 1500)
			})
		}
	}
}

func TestCountsOfSizes(t *testing.T) {
	for _, n := range []int{0, 1, 2, 99, 100, 101, 102, 3000} {
		inEachPlace(flowOf(1500, 0, manySizes(n, 1500)...), func(x impl.Turns, i int64) {
			checkIsRight(t, x, n <= 100)
		})
	}
	for _, n := range noSegments() {
		full := manySizes(100, 1)
		full[99] = n
		inEachPlace(flowOf(1500, 0, full...), func(x impl.Turns, i int64) { checkNoTurns(t, x) })
	}
}

func TestQueueRefuses(t *testing.T) {
	for _, flows := range []int64{1, 2, 30} {
		x := freshTurns(flowsOf(int(flows), flowOf(1500, 2, 3))...)
		for _, i := range []int64{-1, -2, -flows, flows, flows + 1, 30, 1 << 32, -1 << 63, 1<<63 - 1} {
			checkQueue(t, x, i, 1, impl.Turns{}, false)
		}
		for i := range flows {
			for _, n := range noSegments() {
				checkQueue(t, x, i, n, impl.Turns{}, false)
			}
			for _, n := range []int64{1, 2, 1499, 1500} {
				want := changedTurns(x, func(x *impl.Turns) { x.Flows[i].Sizes = []int64{3, n} })
				checkQueue(t, x, i, n, want, true)
			}
			for _, n := range []int64{0, -1, 1501} {
				checkQueue(t, x, i, n, impl.Turns{}, false)
			}
		}
	}
}

func TestQueueToMaxQueue(t *testing.T) {
	inEachPlace(flowOf(1500, 0), func(x impl.Turns, i int64) {
		for n := range int64(100) {
			next, ok := checkAnyQueue(t, x, i, n+1)
			if !ok || len(next.Flows[i].Sizes) != int(n)+1 {
				t.Fatal(n, next)
			}
			x = next
		}
		checkQueue(t, x, i, 1, impl.Turns{}, false)
		checkTurnsOk(t, x, true)
		// The others have room still; and this one too as soon as it is served.
		for k := range int64(3) {
			if _, ok := checkAnyQueue(t, x, k, 1500); ok != (k != i) {
				t.Fatal(i, k, ok)
			}
		}
		for len(x.Flows[i].Sizes) == 100 {
			x, _, _ = checkAnyServe(t, x)
		}
		if _, ok := checkAnyQueue(t, x, i, 9); !ok {
			t.Fatal("there is room again")
		}
	})
}

func TestServeAllByHand(t *testing.T) {
	x := freshTurns(flowOf(1500, 0, 1000, 900, 800), flowOf(3000, 0, 1500, 1400), flowOf(1500, 0))
	checkServeAll(t, x, 0, x, 0, 0, 0)
	checkServeAll(t, x, 1, turnsAt(0, flowOf(1500, 500, 900, 800), flowOf(3000, 0, 1500, 1400), flowOf(1500, 0)), 1000, 0, 0)
	checkServeAll(t, x, 2, turnsAt(1, flowOf(1500, 500, 900, 800), flowOf(3000, 1500, 1400), flowOf(1500, 0)), 1000, 1500, 0)
	checkServeAll(t, x, 4, turnsAt(0, flowOf(1500, 1100, 800), flowOf(3000, 0), flowOf(1500, 0)), 1900, 2900, 0)
	all := turnsAt(0, flowOf(1500, 0), flowOf(3000, 0), flowOf(1500, 0))
	for _, n := range []int64{5, 6, 7, 100, 2999, 3000} {
		checkServeAll(t, x, n, all, 2700, 2900, 0)
	}
	checkServeAll(t, x, 3001, impl.Turns{})
	checkServeAll(t, x, -1, impl.Turns{})
}

// fullTurns are as many flows with as many sizes as there may be.
func fullTurns(state *uint64) impl.Turns {
	var flows []impl.Flow
	for range 30 {
		f := flowOf(1500+mixed(state)%5000, 0)
		for range 100 {
			f.Sizes = append(f.Sizes, 1+mixed(state)%1500)
		}
		flows = append(flows, f)
	}
	return freshTurns(flows...)
}

func TestServeAllOfAll(t *testing.T) {
	state := uint64(81)
	x := fullTurns(&state)
	var sums []int64
	for _, f := range x.Flows {
		sums = append(sums, sumOf(f.Sizes))
	}
	next, got := checkAnyServeAll(t, x, 3000)
	if !areAllEmpty(next) || !slices.Equal(got, sums) {
		t.Fatal(next, got, sums)
	}
	checkWaiting(t, x, sumOf(sums))
	checkWaiting(t, next, 0)
	next, got = checkAnyServeAll(t, x, 2999)
	if areAllEmpty(next) || impl.Waiting(next) != sumOf(sums)-sumOf(got) {
		t.Fatal(next)
	}
	checkServeAll(t, x, 3001, impl.Turns{})
}

func TestServeAllInTwoSteps(t *testing.T) {
	state := uint64(82)
	x := fullTurns(&state)
	for _, n := range []int64{0, 1, 2, 29, 30, 31, 100, 1500, 2999, 3000} {
		half, first := impl.ServeAll(x, n)
		rest, second := impl.ServeAll(half, 3000-n)
		whole, both := impl.ServeAll(x, 3000)
		if !isSameTurns(rest, whole) {
			t.Fatal(n, rest, whole)
		}
		for i := range both {
			if first[i]+second[i] != both[i] {
				t.Fatal(n, i, first, second, both)
			}
		}
	}
}

func TestServeAllCounts(t *testing.T) {
	x := freshTurns(flowOf(1500, 0, 1), flowOf(1500, 0))
	for _, n := range append(edges(), -2, -1, 0, 1, 2, 2999, 3000, 3001, 3002) {
		checkAnyServeAll(t, x, n)
		if _, sums := impl.ServeAll(x, n); (len(sums) == 2) != (n >= 0 && n <= 3000) {
			t.Fatal(n, sums)
		}
	}
}

func TestWaiting(t *testing.T) {
	checkWaiting(t, freshTurns(flowOf(1500, 0)), 0)
	checkWaiting(t, freshTurns(flowOf(1500, 700, 1)), 1)
	checkWaiting(t, turnsAt(1, flowOf(1500, 0, 10, 20), flowOf(1500, 0), flowOf(1500, 0, 300)), 330)
	checkWaiting(t, freshTurns(flowsOf(30, flowOf(1500, 0, manySizes(100, 1500)...))...), 4500000)
}

// A ledger keeps beside the Turns what waits in which queue, in order, and
// what each flow was served: it knows nothing of turns.
type ledger struct {
	t      *testing.T
	turns  impl.Turns
	queues [][]int64
	served []int64
	seen   map[string]int
}

func newLedger(t *testing.T, x impl.Turns) *ledger {
	t.Helper()
	l := &ledger{t: t, turns: x, served: make([]int64, len(x.Flows)), seen: map[string]int{}}
	for _, f := range x.Flows {
		l.queues = append(l.queues, slices.Clone(f.Sizes))
	}
	return l
}

func (l *ledger) waiting() int64 {
	var sum int64
	for _, queue := range l.queues {
		sum += sumOf(queue)
	}
	return sum
}

func (l *ledger) check() {
	l.t.Helper()
	checkTurnsOk(l.t, l.turns, true)
	checkWaiting(l.t, l.turns, l.waiting())
	for i, f := range l.turns.Flows {
		if !slices.Equal(f.Sizes, l.queues[i]) {
			l.t.Fatalf("flow %d has %v, not %v", i, f.Sizes, l.queues[i])
		}
	}
}

func (l *ledger) queue(i int64, n int64) {
	l.t.Helper()
	next, ok := checkAnyQueue(l.t, l.turns, i, n)
	if ok != (len(l.queues[i]) < 100) {
		l.t.Fatalf("flow %d with %d sizes: %v", i, len(l.queues[i]), ok)
	}
	if !ok {
		l.seen["full"]++
		return
	}
	l.seen["queued"]++
	l.queues[i] = append(l.queues[i], n)
	l.turns = next
	l.check()
}

func (l *ledger) take(i int64, n int64) {
	l.t.Helper()
	if i < 0 || len(l.queues[i]) == 0 || l.queues[i][0] != n {
		l.t.Fatalf("%d of flow %d was not the first of %v", n, i, l.queues)
	}
	l.queues[i] = l.queues[i][1:]
	l.served[i] += n
}

// serve tells the flow, -1 where all is served.
func (l *ledger) serve() int64 {
	l.t.Helper()
	before := l.turns
	next, i, n := checkAnyServe(l.t, before)
	l.turns = next
	if l.waiting() == 0 {
		l.seen["none"]++
		if i != -1 || n != 0 || !isSameTurns(next, before) {
			l.t.Fatal(i, n, next)
		}
		return -1
	}
	switch {
	case i == before.At && !before.Fresh && !next.Fresh && next.Flows[i].Deficit < before.Flows[i].Deficit:
		l.seen["same"]++
	case i < before.At:
		l.seen["round"]++
	default:
		l.seen["next"]++
	}
	l.take(i, n)
	l.check()
	return i
}

// serveAll holds the sums against what the single Serves come to.
func (l *ledger) serveAll(n int64) {
	l.t.Helper()
	next, sums := checkAnyServeAll(l.t, l.turns, n)
	before := slices.Clone(l.served)
	for range n {
		if l.serve() < 0 {
			break
		}
	}
	if !isSameTurns(next, l.turns) {
		l.t.Fatalf("%d at once lead to %+v, one by one to %+v", n, next, l.turns)
	}
	for i, sum := range sums {
		if l.served[i]-before[i] != sum {
			l.t.Fatalf("flow %d was served %d, not %d", i, sum, l.served[i]-before[i])
		}
	}
}

// drain serves all that is left, and wants just that to be served.
func (l *ledger) drain() {
	l.t.Helper()
	var sizes int
	for _, queue := range l.queues {
		sizes += len(queue)
	}
	for range sizes {
		if l.serve() < 0 {
			l.t.Fatal("not all that is queued is served")
		}
	}
	if l.serve() != -1 || l.waiting() != 0 || !areAllEmpty(l.turns) {
		l.t.Fatal("more is served than was queued")
	}
}

func anySize(state *uint64) int64 {
	switch mixed(state) % 4 {
	case 0:
		return 1500
	case 1:
		return 1 + mixed(state)%60
	}
	return 1 + mixed(state)%1500
}

// by mixes Queue, Serve and ServeAll: the first weight is of Queue, out of 100.
func (l *ledger) by(state *uint64, steps int, weight int64) {
	l.t.Helper()
	flows := int64(len(l.turns.Flows))
	for range steps {
		switch kind := mixed(state) % 100; {
		case kind < weight:
			l.queue(mixed(state)%flows, anySize(state))
		case kind < 99:
			l.serve()
		default:
			l.serveAll(mixed(state) % 20)
		}
	}
}

// quantaOf are alike, twofold from flow to flow, or mixed, for so many flows.
func quantaOf(state *uint64, n int) [][]int64 {
	double := manySizes(n, 1500)
	unlike := manySizes(n, 1500)
	for i := range n {
		double[i] <<= i % 6
		unlike[i] += mixed(state) % 4000
	}
	return [][]int64{manySizes(n, 1500), manySizes(n, 9000), manySizes(n, billion), double, unlike}
}

func turnsBy(quanta []int64, at int64) impl.Turns {
	x := impl.Turns{At: at, Fresh: true}
	for _, q := range quanta {
		x.Flows = append(x.Flows, flowOf(q, 0))
	}
	return x
}

func TestMixedTurns(t *testing.T) {
	state := uint64(83)
	seen := map[string]int{}
	for _, n := range []int{1, 2, 3, 7, 30} {
		for _, quanta := range quantaOf(&state, n) {
			l := newLedger(t, turnsBy(quanta, mixed(&state)%int64(n)))
			l.by(&state, 150, 80)
			l.by(&state, 200, 50)
			l.by(&state, 150, 20)
			l.drain()
			l.by(&state, 50, 60)
			l.drain()
			for kind, count := range l.seen {
				seen[kind] += count
			}
		}
	}
	for _, kind := range []string{"queued", "none", "same", "round", "next"} {
		if seen[kind] < 100 {
			t.Fatal("too few of a kind were met:", seen)
		}
	}
}

func TestFullQueuesInARow(t *testing.T) {
	state := uint64(84)
	l := newLedger(t, turnsBy([]int64{1500, 4000}, 0))
	l.by(&state, 400, 90)
	if l.seen["full"] < 10 {
		t.Fatal("no queue was full:", l.seen)
	}
	l.drain()
}

// What is queued last is served last, whatever the others have.
func TestEachQueueInItsOrder(t *testing.T) {
	for _, n := range []int{1, 2, 30} {
		l := newLedger(t, turnsBy(manySizes(n, 1500), 0))
		for size := range int64(50) {
			for i := range int64(n) {
				l.queue(i, 1+(size*37+i*11)%1500)
			}
		}
		l.drain()
	}
}

// checkShares is the promise of two queues that are never empty: for each
// quantum of its own one was served, the other was served one, but for a turn
// and a segment.
func checkShares(t *testing.T, a impl.Flow, b impl.Flow, servedA int64, servedB int64) {
	t.Helper()
	if ahead := servedA*b.Quantum - servedB*a.Quantum; ahead >= a.Quantum*b.Quantum+1500*a.Quantum {
		t.Fatalf("%d served by a quantum of %d, %d by one of %d", servedA, a.Quantum, servedB, b.Quantum)
	}
}

func (l *ledger) checkAllShares(never []int) {
	l.t.Helper()
	for _, i := range never {
		for _, k := range never {
			if i != k {
				checkShares(l.t, l.turns.Flows[i], l.turns.Flows[k], l.served[i], l.served[k])
			}
		}
	}
}

// keep serves again and again, while some queues are never empty.
func (l *ledger) keep(never []int, steps int, sizeOf func(i int) int64, between func()) {
	l.t.Helper()
	for range steps {
		for _, i := range never {
			for len(l.queues[i]) < 2 {
				l.queue(int64(i), sizeOf(i))
			}
		}
		between()
		l.serve()
		l.checkAllShares(never)
	}
}

func nothing() {}

func TestSharesOfTwo(t *testing.T) {
	state := uint64(85)
	sizes := []func(i int) int64{
		func(int) int64 { return 1500 },
		func(int) int64 { return 751 },
		func(i int) int64 { return 1 + 1499*int64(i) },
		func(i int) int64 { return 1500 - 600*int64(i) },
		func(int) int64 { return anySize(&state) },
	}
	for _, quanta := range [][]int64{{1500, 1500}, {1500, 1501}, {1500, 3000}, {9000, 1500}, {2000, 7001}, {1999, 2000}, {billion, billion}} {
		for _, sizeOf := range sizes {
			for at := range int64(2) {
				newLedger(t, turnsBy(quanta, at)).keep([]int{0, 1}, 400, sizeOf, nothing)
			}
		}
	}
}

// After whole turns of sizes that fit them, the shares are just the quanta.
func TestSharesOfWholeTurns(t *testing.T) {
	x := freshTurns(flowOf(1500, 0, manySizes(100, 1500)...), flowOf(4500, 0, manySizes(100, 1500)...))
	for turns := range int64(25) {
		next, sums := impl.ServeAll(x, 4*turns)
		if sums[0] != 1500*turns || sums[1] != 4500*turns {
			t.Fatal(turns, sums, next)
		}
	}
	// Of sizes that do not fit, what is left over is made good in later turns.
	x = freshTurns(flowOf(1500, 0, manySizes(100, 1000)...), flowOf(1500, 0, manySizes(100, 1500)...))
	next, sums := impl.ServeAll(x, 50)
	if sums[0] != 30000 || sums[1] != 30000 {
		t.Fatal(sums, next)
	}
}

func TestSharesOfAll(t *testing.T) {
	state := uint64(86)
	for _, n := range []int{3, 8, 30} {
		var never []int
		for i := range n {
			never = append(never, i)
		}
		for _, quanta := range quantaOf(&state, n) {
			l := newLedger(t, turnsBy(quanta, mixed(&state)%int64(n)))
			l.keep(never, 300, func(int) int64 { return anySize(&state) }, nothing)
		}
	}
}

// Two are never empty, and others come and go.
func TestSharesBesideOthers(t *testing.T) {
	state := uint64(87)
	for _, n := range []int{3, 6, 30} {
		for _, quanta := range quantaOf(&state, n) {
			l := newLedger(t, turnsBy(quanta, mixed(&state)%int64(n)))
			never := []int{0, n / 2}
			l.keep(never, 500, func(int) int64 { return anySize(&state) }, func() {
				other := mixed(&state) % int64(n)
				if mixed(&state)%4 == 0 && !slices.Contains(never, int(other)) {
					l.queue(other, anySize(&state))
				}
			})
		}
	}
}

// Every Turns of two small flows, and where each may be.
func TestSmallTurns(t *testing.T) {
	var flows []impl.Flow
	for _, deficit := range []int64{-1, 0, 1, 2, 1499, 1500, 3000, 3001} {
		for _, sizes := range [][]int64{nil, {0}, {1}, {2}, {1500}, {2, 1}, {1, 1501}} {
			flows = append(flows, flowOf(1500, deficit, sizes...))
		}
	}
	right := 0
	for _, a := range flows {
		for _, b := range flows {
			for at := int64(-1); at <= 2; at++ {
				for _, fresh := range []bool{true, false} {
					x := impl.Turns{Flows: []impl.Flow{copiedFlow(a), copiedFlow(b)}, At: at, Fresh: fresh}
					checkTurns(t, x, 0, 1)
					checkTurns(t, x, 1, 3)
					if impl.TurnsOk(x) {
						right++
					}
				}
			}
		}
	}
	if right < 500 {
		t.Fatal("too few of them are right:", right)
	}
}

func TestTurnsAtEveryArgument(t *testing.T) {
	x := turnsAt(1, flowOf(1500, 7, 8), flowOf(2000, 9, 10, 11))
	for _, a := range edges() {
		checkAnyServeAll(t, x, a)
		for _, b := range edges() {
			checkAnyQueue(t, x, a, b)
			checkTurns(t, turnsAt(a, flowOf(b, 0, 1)), 0, 1)
			checkTurns(t, turnsAt(0, flowOf(a, b, 1)), 0, 1)
			checkTurns(t, turnsAt(0, flowOf(a, b)), 0, 1)
			checkTurns(t, freshTurns(flowOf(1500, a, b)), 0, 1)
			checkTurns(t, turnsAt(0, flowOf(1500, 0), flowOf(a, b, 1)), 1, 1)
		}
	}
}

// spoiledTurns have one thing that is changed by a little: some are still right.
func spoiledTurns(state *uint64, x impl.Turns) impl.Turns {
	return changedTurns(x, func(x *impl.Turns) {
		f := &x.Flows[mixed(state)%int64(len(x.Flows))]
		switch mixed(state) % 6 {
		case 0:
			f.Quantum = 1499 + mixed(state)%2
		case 1:
			f.Deficit = 1498 + mixed(state)%4
		case 2:
			f.Deficit = f.Quantum + 1499 + mixed(state)%3
		case 3:
			f.Sizes = append(f.Sizes, 1500*(mixed(state)%2)+mixed(state)%2)
		case 4:
			x.At = mixed(state)%int64(len(x.Flows)+2) - 1
		case 5:
			f.Sizes = manySizes(99+int(mixed(state)%3), 5)
		}
	})
}

// anyTurns may have any deficits that Turns may have.
func anyTurns(state *uint64, n int) impl.Turns {
	x := impl.Turns{At: mixed(state) % int64(n), Fresh: mixed(state)%2 == 0}
	for i := range n {
		f := flowOf(1500+mixed(state)%3000, 0)
		for range mixed(state) % 4 {
			f.Sizes = append(f.Sizes, anySize(state))
		}
		if len(f.Sizes) > 0 {
			f.Deficit = mixed(state) % 1500
			if int64(i) == x.At && !x.Fresh {
				f.Deficit = mixed(state) % (f.Quantum + 1501)
			}
		}
		x.Flows = append(x.Flows, f)
	}
	return x
}

func TestMixedTurnsOfAnyDeficits(t *testing.T) {
	state := uint64(88)
	right, wrong := 0, 0
	for range 5000 {
		x := anyTurns(&state, 1+int(mixed(&state)%30))
		checkTurnsOk(t, x, true)
		if mixed(&state)%2 == 0 {
			x = spoiledTurns(&state, x)
		}
		checkTurns(t, x, mixed(&state)%int64(len(x.Flows)+1), mixed(&state)%1502)
		if impl.TurnsOk(x) {
			right++
		} else {
			wrong++
		}
	}
	if right < 1000 || wrong < 1000 {
		t.Fatal("too few of a kind were met:", right, wrong)
	}
}

// sizesWithRoom has room behind the list: whoever wrote there would be seen.
func sizesWithRoom(list []int64) ([]int64, []int64) {
	whole := append(slices.Clone(list), 71, 72, 73, 74)
	return whole[:len(list):len(whole)], whole
}

// turnsWithRoom gives also those whose lists have that room as their own.
func turnsWithRoom(x impl.Turns) (impl.Turns, impl.Turns) {
	room, whole := x, x
	room.Flows, whole.Flows = nil, nil
	for _, f := range x.Flows {
		narrow, wide := f, f
		narrow.Sizes, wide.Sizes = sizesWithRoom(f.Sizes)
		room.Flows = append(room.Flows, narrow)
		whole.Flows = append(whole.Flows, wide)
	}
	spare := flowOf(75, 76, 77)
	list := append(slices.Clone(room.Flows), spare, spare)
	room.Flows = list[:len(x.Flows):len(list)]
	whole.Flows = append(whole.Flows, spare, spare)
	return room, whole
}

// wholeOf looks at Turns with all the room behind its lists.
func wholeOf(room impl.Turns) impl.Turns {
	whole := room
	whole.Flows = slices.Clone(room.Flows[:cap(room.Flows)])
	for i := range room.Flows {
		whole.Flows[i].Sizes = room.Flows[i].Sizes[:cap(room.Flows[i].Sizes)]
	}
	return whole
}

// A reply is what a call answers: Turns, and a list of sums beside them.
type reply struct {
	turns impl.Turns
	sums  []int64
}

func copiedReply(r reply) reply { return reply{copiedTurns(r.turns), slices.Clone(r.sums)} }

func isSameReply(a reply, b reply) bool {
	return isSameTurns(a.turns, b.turns) && slices.Equal(a.sums, b.sums)
}

// checkListsOfReply spoils the lists of an answer one by one, with all the room
// behind each, and wants the others to stay.
func checkListsOfReply(t *testing.T, name string, r reply) {
	t.Helper()
	lists := [][]int64{r.sums}
	for _, f := range r.turns.Flows {
		lists = append(lists, f.Sizes)
	}
	for _, list := range lists {
		before := slices.Clone(list)
		want := copiedReply(r)
		spoil(list, -9)
		copy(list, before)
		if !isSameReply(r, want) {
			t.Fatalf("%s: two lists of %+v share memory", name, want)
		}
	}
	for _, list := range lists {
		spoil(list, -9)
	}
	spoil(r.turns.Flows, flowOf(-9, -9, -9))
}

// checkReply spoils an answer, and wants another one and the argument to be as they were.
func checkReply(t *testing.T, name string, given impl.Turns, act func(impl.Turns) reply) {
	t.Helper()
	x, whole := turnsWithRoom(given)
	first, second := act(x), act(x)
	want := copiedReply(second)
	if !isSameReply(first, want) {
		t.Fatalf("%s: %+v, then %+v", name, first, second)
	}
	checkListsOfReply(t, name, first)
	if !isSameReply(second, want) {
		t.Fatalf("%s: %+v is %+v when another answer is written into", name, want, second)
	}
	if !isSameTurns(wholeOf(x), whole) {
		t.Fatalf("%s: %+v was written into: %+v", name, whole, wholeOf(x))
	}
	if third := act(x); !isSameReply(third, want) {
		t.Fatalf("%s: %+v is %+v when it is asked for again", name, want, third)
	}
}

func checkTurnMemory(t *testing.T, given impl.Turns, i int64, n int64) {
	t.Helper()
	checkReply(t, "Queue", given, func(x impl.Turns) reply {
		next, _ := impl.Queue(x, i, n)
		return reply{turns: next}
	})
	checkReply(t, "Serve", given, func(x impl.Turns) reply {
		next, _, _ := impl.Serve(x)
		return reply{turns: next}
	})
	checkReply(t, "ServeAll", given, func(x impl.Turns) reply {
		next, sums := impl.ServeAll(x, n)
		return reply{next, sums}
	})
	checkReply(t, "TurnsOk and Waiting", given, func(x impl.Turns) reply {
		impl.TurnsOk(x)
		impl.Waiting(x)
		return reply{}
	})
}

func TestTurnMemory(t *testing.T) {
	state := uint64(89)
	list := []impl.Turns{
		{},
		freshTurns(flowOf(1500, 0)),
		turnsAt(0, flowOf(1500, 0)),
		freshTurns(flowOf(1500, 0, 5)),
		turnsAt(1, flowOf(1500, 0, 5), flowOf(1500, 6, 7)),
		turnsAt(0, flowOf(1499, 0, 5)),
		freshTurns(flowsOf(30, flowOf(1500, 0, manySizes(100, 9)...))...),
		freshTurns(flowsOf(30, flowOf(1500, 0))...),
	}
	for n := range 30 {
		list = append(list, anyTurns(&state, n+1))
	}
	for _, x := range list {
		for i := int64(-1); i <= int64(len(x.Flows)); i++ {
			for _, n := range []int64{-1, 0, 1, 2, 1500} {
				checkTurnMemory(t, x, i, n)
			}
		}
	}
}

// Turns that were answered stay as they are when others are made of them.
func TestTurnsOfOne(t *testing.T) {
	x := freshTurns(flowOf(1500, 0, 5, 6), flowOf(1500, 0, 7))
	served, _, _ := impl.Serve(x)
	a, _ := impl.Queue(served, 0, 1)
	b, _ := impl.Queue(served, 0, 2)
	c, _, _ := impl.Serve(served)
	d, _ := impl.ServeAll(served, 3000)
	for _, got := range []struct{ turns, want impl.Turns }{
		{x, freshTurns(flowOf(1500, 0, 5, 6), flowOf(1500, 0, 7))},
		{served, turnsAt(0, flowOf(1500, 1495, 6), flowOf(1500, 0, 7))},
		{a, turnsAt(0, flowOf(1500, 1495, 6, 1), flowOf(1500, 0, 7))},
		{b, turnsAt(0, flowOf(1500, 1495, 6, 2), flowOf(1500, 0, 7))},
		{c, turnsAt(0, flowOf(1500, 0), flowOf(1500, 0, 7))},
		{d, turnsAt(1, flowOf(1500, 0), flowOf(1500, 0))},
	} {
		if !isSameTurns(got.turns, got.want) {
			t.Fatalf("%+v, not %+v", got.turns, got.want)
		}
	}
}

// Two flows may have one list: what is done to one is not done to the other.
func TestFlowsOfOneList(t *testing.T) {
	room, _ := sizesWithRoom([]int64{5, 6, 7})
	x := freshTurns(flowOf(1500, 0), flowOf(1500, 0))
	x.Flows[0].Sizes, x.Flows[1].Sizes = room, room[:2]
	checkQueue(t, x, 1, 9, freshTurns(flowOf(1500, 0, 5, 6, 7), flowOf(1500, 0, 5, 6, 9)), true)
	checkServe(t, x, turnsAt(0, flowOf(1500, 1495, 6, 7), flowOf(1500, 0, 5, 6)), 0, 5)
	checkServeAll(t, x, 3000, turnsAt(1, flowOf(1500, 0), flowOf(1500, 0)), 18, 11)
}

// Whatever brings the flows, nothing of it goes on behind an answer.
func TestNothingGoesOnBehindAnAnswer(t *testing.T) {
	state := uint64(90)
	x := fullTurns(&state)
	before := runtime.NumGoroutine()
	for range 200 {
		impl.Serve(x)
		impl.ServeAll(x, 20)
		impl.Serve(impl.Turns{})
	}
	if after := runtime.NumGoroutine(); after > before {
		t.Fatal(before, after)
	}
}
