package tests

import (
	"math"
	"slices"
	"testing"

	"loop.example/g00147/impl"
)

func idsIn(e impl.Engine) []int64 {
	var ids []int64
	for _, c := range e.Conns {
		ids = append(ids, c.Id)
	}
	return ids
}

func TestEngineOpenByHand(t *testing.T) {
	e := engineOf(branchTree(), 1000, []int64{60000, 7000})
	e = checkDone(t, e, opening(50, 3, 1, impl.CcCubic))
	if c := e.Conns[0]; !isSameConn(c, impl.Conn{Id: 50, Leaf: 3, Place: 1, Cc: newCc(t, impl.CcCubic)}) {
		t.Fatal(c)
	}
	if !isSamePlace(e.Places[1], placeOf(7000, 0, 50)) || !isSamePlace(e.Places[0], placeOf(60000, 0)) {
		t.Fatal(e.Places)
	}
	e = checkDone(t, e, opening(40, 2, 1, impl.CcReno))
	e = checkDone(t, e, opening(60, 4, 0, impl.CcReno))
	e = checkDone(t, e, opening(45, 2, 0, impl.CcCubic))
	e = checkDone(t, e, opening(1000000, 2, 1, impl.CcReno))
	e = checkDone(t, e, opening(0, 2, 1, impl.CcReno))
	if !slices.Equal(idsIn(e), []int64{0, 40, 45, 50, 60, 1000000}) || e.Next != 0 || e.Now != 1000 {
		t.Fatal(e)
	}
	if !isSamePlace(e.Places[0], placeOf(60000, 0, 45, 60)) || !isSamePlace(e.Places[1], placeOf(7000, 0, 0, 40, 50, 1000000)) {
		t.Fatal(e.Places)
	}
}

// Ahead of all, between any two and behind all, in Engines of all counts.
func TestEngineOpenAnywhere(t *testing.T) {
	for n := range 40 {
		e := fullEngine(n, 3)
		ids := []int64{0, 999999, 1000000}
		for i := range n {
			ids = append(ids, int64(10+20*i)-1, int64(10+20*i)+1)
		}
		for _, id := range ids {
			next := checkDone(t, e, opening(id, 3, 2, impl.CcReno))
			if len(next.Conns) != n+1 || !slices.IsSorted(idsIn(next)) {
				t.Fatal(next)
			}
		}
	}
}

// A refusal is a reason of Open's, by itself: how many of them there are at
// once, the one named first is told.
type refusal struct {
	code int64
	args func(x *[4]int64)
}

func openRefusals() []refusal {
	return []refusal{
		{impl.EgId, func(x *[4]int64) { x[0] = 30 }},
		{impl.EgId, func(x *[4]int64) { x[0] = -1 }},
		{impl.EgId, func(x *[4]int64) { x[0] = 1000001 }},
		{impl.EgLeaf, func(x *[4]int64) { x[1] = 1 }},
		{impl.EgLeaf, func(x *[4]int64) { x[1] = -1 }},
		{impl.EgLeaf, func(x *[4]int64) { x[1] = 5 }},
		{impl.EgPlace, func(x *[4]int64) { x[2] = -1 }},
		{impl.EgPlace, func(x *[4]int64) { x[2] = 3 }},
		{impl.EgKind, func(x *[4]int64) { x[3] = 0 }},
		{impl.EgKind, func(x *[4]int64) { x[3] = impl.CcProbe }},
		{impl.EgKind, func(x *[4]int64) { x[3] = 4 }},
	}
}

func TestEngineOpenCodes(t *testing.T) {
	almost, full := fullEngine(39, 3), fullEngine(40, 3)
	list := openRefusals()
	for set := range 1 << len(list) {
		args := [4]int64{25, 2, 1, impl.CcReno}
		code := int64(0)
		for i, r := range list {
			if set>>i&1 == 1 {
				r.args(&args)
				if code == 0 {
					code = r.code
				}
			}
		}
		x := opening(args[0], args[1], args[2], args[3])
		if got, is := impl.Open(almost, args[0], args[1], args[2], args[3]); is != code || code != 0 && !isSameEngine(got, almost) {
			t.Fatalf("Open(%v) = %d, not %d", args, is, code)
		}
		if code == 0 {
			code = impl.EgFull
		}
		if got, is := impl.Open(full, args[0], args[1], args[2], args[3]); is != code || !isSameEngine(got, full) {
			t.Fatalf("Open(%v) = %d, not %d", args, is, code)
		}
		if set&(set-1) == 0 {
			checkCall(t, almost, x)
			checkCall(t, full, x)
		}
	}
	bad := changedEngine(full, func(e *impl.Engine) { e.Next = -1 })
	for _, r := range list {
		args := [4]int64{25, 2, 1, impl.CcReno}
		r.args(&args)
		if got, code := impl.Open(bad, args[0], args[1], args[2], args[3]); code != impl.EgBad || !isSameEngine(got, impl.Engine{}) {
			t.Fatal(got, code)
		}
	}
}

func TestEngineOpenToMaxConns(t *testing.T) {
	for _, places := range []int{1, 4, 10} {
		e := fullEngine(38, places)
		e = checkDone(t, e, opening(5, 2, 0, impl.CcReno))
		e = checkDone(t, e, opening(1000000, 2, 0, impl.CcReno))
		checkRefused(t, e, opening(7, 2, 0, impl.CcReno), impl.EgFull)
		checkRefused(t, e, opening(5, 2, 0, impl.CcReno), impl.EgId)
		e = checkDone(t, e, closing(50))
		e = checkDone(t, e, opening(7, 2, 0, impl.CcReno))
		checkRefused(t, e, opening(50, 2, 0, impl.CcReno), impl.EgFull)
	}
}

// A place may have more Members than an Engine has connections; but then some
// of them are none of its connections.
func TestEngineOpenAtAFullPlace(t *testing.T) {
	for _, n := range []int{40, 41, 49, 50, 51} {
		e := fullEngine(40, 1)
		e.Places[0].Members = risingIds(n)
		checkIsRightEngine(t, e, n == 40)
		code := int64(impl.EgFull)
		if n != 40 {
			code = impl.EgBad
		}
		if _, is := impl.Open(e, 5, 2, 0, impl.CcReno); is != code {
			t.Fatal(n, is)
		}
		none := engineOf(branchTree(), 1000, []int64{60000})
		none.Places[0].Members = risingIds(n)
		if next, is := impl.Open(none, 5, 2, 0, impl.CcReno); is != impl.EgBad || !isSameEngine(next, impl.Engine{}) {
			t.Fatal(n, is)
		}
	}
}

func TestEngineSubmitCodes(t *testing.T) {
	for i, c := range busyEngine().Conns {
		for _, waiting := range []int{0, 1, 98, 99, 100} {
			e := changedEngine(busyEngine(), func(e *impl.Engine) { e.Conns[i].Sizes = manySizes(waiting, 9) })
			for _, n := range []int64{1, 2, 1499, 1500} {
				if waiting == 100 {
					checkRefused(t, e, submitting(c.Id, n), impl.EgFull)
					continue
				}
				next := checkDone(t, e, submitting(c.Id, n))
				if !slices.Equal(next.Conns[i].Sizes, append(manySizes(waiting, 9), n)) {
					t.Fatal(next)
				}
			}
			for _, n := range append(noSegments(), -1500) {
				checkRefused(t, e, submitting(c.Id, n), impl.EgSize)
				checkRefused(t, e, submitting(c.Id+1, n), impl.EgId)
			}
			for _, id := range append(noIds(), c.Id-1, c.Id+1, 0, 1000000) {
				checkRefused(t, e, submitting(id, 5), impl.EgId)
				checkRefused(t, e, submitting(id, 1501), impl.EgId)
			}
		}
	}
	none := engineOf(soleTree(), 0, []int64{3000})
	checkRefused(t, none, submitting(0, 5), impl.EgId)
}

func TestEngineSubmitToMaxQueue(t *testing.T) {
	e := engineOf(soleTree(), 0, []int64{60000}, connOf(0, 0, 0, newCc(t, impl.CcReno)), connOf(9, 0, 0, newCc(t, impl.CcCubic)))
	for n := int64(1); n <= 100; n++ {
		e = checkDone(t, e, submitting(9, n))
	}
	checkRefused(t, e, submitting(9, 101), impl.EgFull)
	checkRefused(t, e, submitting(9, 0), impl.EgSize)
	e = checkGrants(t, e, 9, 1)
	e = checkDone(t, e, submitting(9, 101))
	checkRefused(t, e, submitting(9, 102), impl.EgFull)
	for n := int64(2); n <= 101; n++ {
		e = checkGrants(t, e, 9, n)
	}
	checkGrantsNone(t, e)
}

// The gates of one connection, 5, for a size: how much room each of them has
// beyond it. Another connection to the same place has what else is in flight there.
type gap struct{ window, place, own, top int64 }

func gapEngine(n int64, kind int64, g gap) impl.Engine {
	e := engineOf(soleTree(), 1000, []int64{60000},
		connOf(3, 0, 0, ccIn(impl.CcReno, 100000, 0)),
		connOf(5, 0, 0, ccIn(kind, 20000, 20000-n-g.window), n, 77),
	)
	e.Conns[0].Cc.Flight = 60000 - n - g.place - e.Conns[1].Cc.Flight
	e.Lend = withLevels(e.Lend, []int64{n*billion + g.own}, []int64{n*billion + g.top})
	return squared(e)
}

func TestEngineGates(t *testing.T) {
	for _, n := range []int64{1, 2, 700, 1499, 1500} {
		for _, kind := range []int64{impl.CcReno, impl.CcCubic} {
			checkGrants(t, gapEngine(n, kind, gap{}), 5, n)
			for _, more := range []int64{1, 1000} {
				checkGrants(t, gapEngine(n, kind, gap{window: more}), 5, n)
				checkGrants(t, gapEngine(n, kind, gap{place: more}), 5, n)
				checkGrants(t, gapEngine(n, kind, gap{own: more}), 5, n)
				checkGrants(t, gapEngine(n, kind, gap{top: more}), 5, n)
				checkGrants(t, gapEngine(n, kind, gap{more, more, more, more}), 5, n)
			}
			// Each gate is shut by itself, and all others are wide open.
			wide := gap{500, 500, 500 * billion, 500 * billion}
			for _, lack := range []int64{1, 2, 500} {
				for _, shut := range []gap{
					{-lack, wide.place, wide.own, wide.top},
					{wide.window, -lack, wide.own, wide.top},
					{wide.window, wide.place, -min(lack, n) * billion, wide.top},
					{wide.window, wide.place, wide.own, -min(lack, n) * billion},
					{wide.window, wide.place, -lack, wide.top},
					{wide.window, wide.place, wide.own, -lack},
					{-lack, -lack, wide.own, wide.top},
					{-lack, wide.place, -lack, wide.top},
					{wide.window, -lack, wide.own, -lack},
					{-lack, -lack, -lack, -lack},
					{-lack, 0, 0, 0},
					{0, -lack, 0, 0},
					{0, 0, -lack, 0},
					{0, 0, 0, -lack},
				} {
					checkGrantsNone(t, gapEngine(n, kind, shut))
				}
			}
		}
	}
}

// More in flight than the window keeps the gate shut, and so does an empty bucket.
func TestEngineGatesFarShut(t *testing.T) {
	for _, flight := range []int64{20001, 60000, 999999999, 1000000000} {
		e := changedAndSquared(gapEngine(1, impl.CcReno, gap{}), func(e *impl.Engine) {
			e.Conns[0].Cc.Flight, e.Conns[1].Cc.Flight, e.Places[0].Window = 0, flight, 1000000000
		})
		checkGrantsNone(t, e)
		e = changedAndSquared(gapEngine(1, impl.CcReno, gap{}), func(e *impl.Engine) {
			e.Conns[0].Cc.Flight, e.Conns[1].Cc.Flight, e.Places[0].Window = flight, 0, 3000
		})
		checkGrantsNone(t, e)
	}
	e := gapEngine(1, impl.CcReno, gap{})
	e.Lend = withLevels(e.Lend, []int64{0}, []int64{0})
	checkGrantsNone(t, e)
}

// The first size alone is asked for, be those behind it great or small.
func TestEngineFirstSizeAlone(t *testing.T) {
	e := gapEngine(100, impl.CcReno, gap{})
	e.Conns[1].Sizes = []int64{100, 1500}
	next := checkGrants(t, e, 5, 100)
	checkGrantsNone(t, next)
	e.Conns[1].Sizes = []int64{101, 1, 1}
	checkGrantsNone(t, e)
}

func TestEngineNothingToGrant(t *testing.T) {
	checkGrantsNone(t, engineOf(soleTree(), 0, []int64{3000}))
	checkGrantsNone(t, engineOf(branchTree(), 1000, []int64{3000, 60000}))
	for _, next := range []int64{0, 5, 10, 15, 40, 41, 1000000, 1000001} {
		e := changedEngine(busyEngine(), func(e *impl.Engine) {
			e.Next = next
			for i := range e.Conns {
				e.Conns[i].Sizes = nil
			}
		})
		checkGrantsNone(t, e)
	}
}

// waitingEngine has three connections with open gates; those of the set have
// sizes that wait.
func waitingEngine(t *testing.T, set int, next int64) impl.Engine {
	e := engineOf(branchTree(), 1000, []int64{60000, 60000})
	for i, id := range []int64{0, 7, 1000000} {
		c := connOf(id, int64(2+i), int64(i%2), newCc(t, impl.CcReno))
		if set>>i&1 == 1 {
			c.Sizes = []int64{100 + id%100, 50}
		}
		e.Conns = append(e.Conns, c)
	}
	e.Next = next
	return squared(e)
}

func TestEngineTurns(t *testing.T) {
	for _, c := range []struct {
		next int64
		// Who is granted where 0 alone waits, 7 alone, both, the last one alone ..
		ids [8]int64
	}{
		{0, [8]int64{-1, 0, 7, 0, 1000000, 0, 7, 0}},
		{1, [8]int64{-1, 0, 7, 7, 1000000, 1000000, 7, 7}},
		{6, [8]int64{-1, 0, 7, 7, 1000000, 1000000, 7, 7}},
		{7, [8]int64{-1, 0, 7, 7, 1000000, 1000000, 7, 7}},
		{8, [8]int64{-1, 0, 7, 0, 1000000, 1000000, 1000000, 1000000}},
		{999999, [8]int64{-1, 0, 7, 0, 1000000, 1000000, 1000000, 1000000}},
		{1000000, [8]int64{-1, 0, 7, 0, 1000000, 1000000, 1000000, 1000000}},
		{1000001, [8]int64{-1, 0, 7, 0, 1000000, 0, 7, 0}},
	} {
		for set, id := range c.ids {
			e := waitingEngine(t, set, c.next)
			if id == -1 {
				checkGrantsNone(t, e)
				continue
			}
			next := checkGrants(t, e, id, 100+id%100)
			if next.Next != id+1 {
				t.Fatal(next)
			}
		}
	}
}

// Who has more waiting is not granted more than the others in their turn.
func TestEngineGrantsInTurn(t *testing.T) {
	e := engineOf(withBurst(soleTree(), 1000000), 0, []int64{60000, 60000, 60000})
	e.Lend = fullLendAt(e.Lend.Tree, 0)
	for i := range int64(7) {
		c := connOf(i*i*1000, 0, i%3, newCc(t, 1+i%2))
		for k := range 4 + i {
			c.Sizes = append(c.Sizes, 10*i+k+1)
		}
		e.Conns = append(e.Conns, c)
	}
	e = squared(e)
	for k := range int64(11) {
		for i := range int64(7) {
			if k < 4+i {
				e = checkGrants(t, e, i*i*1000, 10*i+k+1)
			}
		}
	}
	checkGrantsNone(t, e)
}

// A connection whose gates are shut does not keep those behind it waiting.
func TestEngineGrantsPastShutGates(t *testing.T) {
	shut := []func(*impl.Engine){
		func(e *impl.Engine) { e.Conns[1].Cc.Window, e.Conns[1].Cc.Flight = 3000, 2900 },
		func(e *impl.Engine) { e.Places[1].Window, e.Conns[1].Cc.Flight = 3000, 2900 },
		func(e *impl.Engine) { e.Lend = withLevels(e.Lend, nil, wholeBytes(6000, 4000, 3000, 106)) },
	}
	for _, change := range shut {
		for _, next := range []int64{1, 7} {
			e := waitingEngine(t, 7, next)
			checkGrants(t, e, 7, 107)
			e = changedAndSquared(e, change)
			after := checkGrants(t, e, 1000000, 100)
			if after.Next != 1000001 || len(after.Conns[1].Sizes) != 2 {
				t.Fatal(after)
			}
			after = checkGrants(t, after, 0, 100)
			after = checkGrants(t, after, 1000000, 50)
			after = checkGrants(t, after, 0, 50)
			checkGrantsNone(t, after)
		}
	}
}

// Two gates that are asked at the same place or class: the one granted first
// leaves the other one less.
func TestEngineGatesTogether(t *testing.T) {
	two := func(windows []int64, place int64, leaf int64) impl.Engine {
		return engineOf(branchTree(), 1000, windows,
			connOf(1, 2, 0, newCc(t, impl.CcReno), 1500, 1500),
			connOf(2, leaf, place, newCc(t, impl.CcCubic), 1500, 1500),
		)
	}
	// The place has just 3000, each class more.
	e := two([]int64{3000, 60000}, 0, 3)
	e = checkGrants(t, e, 1, 1500)
	e = checkGrants(t, e, 2, 1500)
	checkGrantsNone(t, e)
	e = checkDone(t, e, acking(1, 1))
	checkGrantsNone(t, e)
	// Class 2 has just 3000, each place more.
	e = two([]int64{60000, 60000}, 1, 2)
	e = checkGrants(t, e, 1, 1500)
	e = checkGrants(t, e, 2, 1500)
	checkGrantsNone(t, e)
	// Class 3 has just 2000 and class 1 then 1000.
	e = two([]int64{60000, 60000}, 1, 3)
	e = checkGrants(t, e, 1, 1500)
	e = checkGrants(t, e, 2, 1500)
	checkGrantsNone(t, e)
}

func TestEngineBorrows(t *testing.T) {
	whole := wholeBytes(6000, 4000, 3000, 2000, 1500)
	for _, c := range []struct {
		own, top   []int64
		id         int64
		ownBehind  []int64
		topsBehind []int64
	}{
		// It has enough of its own.
		{wholeBytes(6000, 4000, 1000), whole, 5, wholeBytes(5000, 3000, 0, 2000, 1500), wholeBytes(5000, 3000, 2000, 2000, 1500)},
		// The class above lends.
		{wholeBytes(6000, 4000, 999), whole, 5, wholeBytes(5000, 3000, 999, 2000, 1500), wholeBytes(5000, 3000, 2000, 2000, 1500)},
		{wholeBytes(500, 1000, 0), whole, 5, wholeBytes(0, 0, 0, 2000, 1500), wholeBytes(5000, 3000, 2000, 2000, 1500)},
		// The first class lends.
		{wholeBytes(1000, 999, 999), whole, 5, wholeBytes(0, 999, 999, 2000, 1500), wholeBytes(5000, 3000, 2000, 2000, 1500)},
		// None lends, though all have some.
		{wholeBytes(999, 999, 999), whole, -1, nil, nil},
		{wholeBytes(0, 0, 0), whole, -1, nil, nil},
		// The bound of one on the path would be passed.
		{whole, wholeBytes(999), -1, nil, nil},
		{whole, wholeBytes(6000, 999), -1, nil, nil},
		{whole, wholeBytes(6000, 4000, 999), -1, nil, nil},
		// Bounds at the side do not count.
		{whole, wholeBytes(6000, 4000, 3000, 0, 0), 5, wholeBytes(5000, 3000, 2000, 2000, 1500), wholeBytes(5000, 3000, 2000, 0, 0)},
		// All at just what it takes.
		{wholeBytes(0, 0, 1000), wholeBytes(1000, 1000, 1000), 5, wholeBytes(0, 0, 0, 2000, 1500), wholeBytes(0, 0, 0, 2000, 1500)},
	} {
		e := engineOf(branchTree(), 1000, []int64{60000}, connOf(5, 2, 0, newCc(t, impl.CcReno), 1000))
		e.Lend = withLevels(e.Lend, c.own, c.top)
		if c.id == -1 {
			checkGrantsNone(t, e)
			continue
		}
		next := checkGrants(t, e, 5, 1000)
		checkLevels(t, next.Lend, c.ownBehind, c.topsBehind)
	}
}

// A class that had not enough is asked again when its time has come, to the nanosecond.
func TestEngineGrantsWhenTimeHasCome(t *testing.T) {
	for _, rate := range []int64{1, 7, 999, 1000000, 1000000000000} {
		tree := []impl.Class{lone(rate, rate, 1500)}
		e := engineOf(tree, 5, []int64{60000}, connOf(5, 0, 0, newCc(t, impl.CcReno), 1500, 900))
		e = checkGrants(t, e, 5, 1500)
		checkGrantsNone(t, e)
		wait := impl.TimeFor(rate, 900)
		if wait > 1 {
			checkGrantsNone(t, checkDone(t, e, forwarding(wait-1)))
		}
		checkGrants(t, checkDone(t, e, forwarding(wait)), 5, 900)
	}
}

// flightEngine has a connection with so much in flight, and another one to the same place.
func flightEngine(kind int64, flight int64) impl.Engine {
	other := ccIn(impl.CcReno, 9000, min(2000, 1000000000-flight))
	return engineOf(soleTree(), 1000, []int64{50000, 3000},
		connOf(4, 0, 0, other, 8), connOf(5, 0, 0, ccIn(kind, 9000, flight), 300), connOf(6, 0, 1, other))
}

func TestEngineAckedAndLostCodes(t *testing.T) {
	for _, kind := range []int64{impl.CcReno, impl.CcCubic} {
		for _, flight := range []int64{0, 1, 2, 2500, 9000, 9001, 999999999, 1000000000} {
			e := flightEngine(kind, flight)
			for _, n := range []int64{math.MinInt64, -flight, -1, 0, flight + 1, 1000000001, math.MaxInt64} {
				if n >= 1 && n <= flight {
					continue
				}
				checkRefused(t, e, acking(5, n), impl.EgSize)
				checkRefused(t, e, losing(5, n), impl.EgSize)
				for _, id := range append(noIds(), 0, 3, 7, 1000000) {
					checkRefused(t, e, acking(id, n), impl.EgId)
					checkRefused(t, e, losing(id, n), impl.EgId)
				}
			}
			for _, n := range []int64{1, 2, flight / 2, flight - 1, flight} {
				if n < 1 || n > flight {
					continue
				}
				checkDone(t, e, acking(5, n))
				checkDone(t, e, losing(5, n))
				checkRefused(t, e, acking(3, n), impl.EgId)
				checkRefused(t, e, losing(3, n), impl.EgId)
			}
		}
	}
	none := engineOf(soleTree(), 0, []int64{3000})
	checkRefused(t, none, acking(0, 1), impl.EgId)
	checkRefused(t, none, losing(0, 1), impl.EgId)
}

func TestEngineAckedByHand(t *testing.T) {
	e := flightEngine(impl.CcReno, 4000)
	e.Conns[1].Cc = ccOf(9000, 9000, 4000, 8000, false)
	next := checkDone(t, e, acking(5, 2000))
	if next.Conns[1].Cc != ccOf(10500, 9000, 2000, 1000, false) || !isSamePlace(next.Places[0], placeOf(50060, 4000, 4, 5)) {
		t.Fatal(next)
	}
	// At 1000 the curve that starts there is of 0 milliseconds.
	e.Conns[1].Cc = impl.Cc{Kind: impl.CcCubic, Window: 9000, Thresh: 9000, Flight: 4000, Last: 12000}
	next = checkDone(t, e, acking(5, 2000))
	want := impl.Cc{
		Kind: impl.CcCubic, Window: 9176, Thresh: 9000, Flight: 2000, Last: 12000, Origin: 9000, Start: 1000, Friend: 9176,
	}
	if next.Conns[1].Cc != want || !isSamePlace(next.Places[0], placeOf(50060, 4000, 4, 5)) {
		t.Fatal(next)
	}
	// 1.71 seconds later it is back at 12000.
	next = checkDone(t, next, forwarding(1710*1000000))
	next = checkDone(t, next, acking(5, 1))
	if next.Conns[1].Cc.Window != 12000 || next.Conns[1].Cc.Start != 1000 || next.Now != 1710001000 {
		t.Fatal(next)
	}
}

func TestEngineLostByHand(t *testing.T) {
	e := flightEngine(impl.CcReno, 4000)
	next := checkDone(t, e, losing(5, 3999))
	want := ccIn(impl.CcReno, 4500, 1)
	want.Thresh, want.Acked = 4500, 0
	if next.Conns[1].Cc != want || !isSamePlace(next.Places[0], placeOf(25000, 2001, 4, 5)) {
		t.Fatal(next)
	}
	e = flightEngine(impl.CcCubic, 4000)
	next = checkDone(t, e, losing(5, 4000))
	if next.Conns[1].Cc != (impl.Cc{Kind: impl.CcCubic, Window: 6300, Thresh: 6300, Last: 7650}) {
		t.Fatal(next)
	}
	if !isSamePlace(next.Places[0], placeOf(25000, 2000, 4, 5)) || !isSamePlace(next.Places[1], placeOf(3000, 2000, 6)) {
		t.Fatal(next)
	}
}

// What came through at another time moves a cubic window otherwise, and not another one.
func TestEngineAckedAtTimes(t *testing.T) {
	for _, now := range []int64{0, 1, 51, 1000000, 1000000000, impl.MaxTime} {
		for _, kind := range []int64{impl.CcReno, impl.CcCubic} {
			for _, start := range []int64{0, 1, 50, 500000000, impl.MaxTime} {
				e := flightEngine(kind, 4000)
				e.Now, e.Lend = now, fullLendAt(soleTree(), now)
				e.Conns[1].Cc.Start, e.Conns[1].Cc.Thresh = start, 3000
				next := checkDone(t, e, acking(5, 1500))
				if kind == impl.CcReno && next.Conns[1].Cc != impl.RenoAck(e.Conns[1].Cc, 1500) {
					t.Fatal(next)
				}
				if kind == impl.CcCubic && next.Conns[1].Cc != impl.CubicAck(e.Conns[1].Cc, 1500, now) {
					t.Fatal(next)
				}
			}
		}
	}
}

func TestEngineClose(t *testing.T) {
	e := busyEngine()
	for i, id := range idsIn(e) {
		next := checkDone(t, e, closing(id))
		if !slices.Equal(idsIn(next), slices.Delete(idsIn(e), i, i+1)) || next.Next != 15 {
			t.Fatal(next)
		}
		checkRefused(t, next, closing(id), impl.EgId)
		checkRefused(t, next, submitting(id, 1), impl.EgId)
	}
	for _, id := range append(noIds(), 0, 9, 11, 25, 41, 1000000) {
		checkRefused(t, e, closing(id), impl.EgId)
	}
	for _, flight := range []int64{0, 1, 4000, 1000000000} {
		for _, id := range []int64{0, 77, 1000000} {
			only := engineOf(soleTree(), 1000, []int64{9000}, connOf(id, 0, 0, ccIn(impl.CcReno, 9000, flight), 5))
			next := checkDone(t, only, closing(id))
			if len(next.Conns) != 0 || !isSamePlace(next.Places[0], placeOf(9000, 0)) {
				t.Fatal(next)
			}
			checkGrantsNone(t, next)
		}
		e := flightEngine(impl.CcCubic, flight)
		next := checkDone(t, e, closing(5))
		if !isSamePlace(next.Places[0], placeOf(50000, min(2000, 1000000000-flight), 4)) {
			t.Fatal(next)
		}
	}
	checkRefused(t, engineOf(soleTree(), 0, []int64{3000}), closing(0), impl.EgId)
}

func TestEngineCloseAll(t *testing.T) {
	for _, backwards := range []bool{false, true} {
		e := fullEngine(40, 3)
		order := idsIn(e)
		if backwards {
			slices.Reverse(order)
		}
		for _, id := range order {
			e = checkDone(t, e, closing(id))
		}
		for _, p := range e.Places {
			if !isSamePlace(p, placeOf(60000, 0)) {
				t.Fatal(e)
			}
		}
	}
}

func TestEngineSwitchCodes(t *testing.T) {
	e := busyEngine()
	for _, id := range idsIn(e) {
		for _, kind := range append(edges(), 0, -1, impl.CcProbe, 4) {
			if kind != impl.CcReno && kind != impl.CcCubic {
				checkRefused(t, e, switching(id, kind), impl.EgKind)
				checkRefused(t, e, switching(id+1, kind), impl.EgId)
			}
		}
		for _, kind := range []int64{impl.CcReno, impl.CcCubic} {
			next := checkDone(t, e, switching(id, kind))
			again := checkDone(t, next, switching(id, kind))
			if !isSameEngine(again, next) {
				t.Fatal(next, again)
			}
			for _, no := range append(noIds(), id-1, id+1, 0, 1000000) {
				checkRefused(t, e, switching(no, kind), impl.EgId)
			}
		}
	}
	checkRefused(t, engineOf(soleTree(), 0, []int64{3000}), switching(0, impl.CcReno), impl.EgId)
}

func TestEngineSwitchWindows(t *testing.T) {
	for _, c := range []struct {
		place, members, window, want int64
	}{
		{60000, 1, 15000, 15000},
		{15000, 1, 14999, 14999},
		{15000, 1, 15000, 15000},
		{15000, 1, 15001, 15000},
		{60000, 4, 14999, 14999},
		{60000, 4, 15000, 15000},
		{60000, 4, 15001, 15000},
		{60003, 4, 15001, 15000},
		{60004, 4, 15001, 15001},
		{60000, 4, 1000000000, 15000},
		{60000, 4, 3000, 3000},
		{12000, 4, 15000, 3000},
		{11999, 4, 15000, 3000},
		{11999, 4, 3000, 3000},
		{3000, 4, 15000, 3000},
		{3000, 40, 3001, 3000},
		{3000, 1, 15000, 3000},
		{1000000000, 1, 1000000000, 1000000000},
		{1000000000, 40, 1000000000, 25000000},
		{1000000000, 40, 24999999, 24999999},
	} {
		for _, kinds := range [][2]int64{{1, 1}, {1, 2}, {2, 1}, {2, 2}} {
			for _, flight := range []int64{0, 5000, 1000000000} {
				e := engineOf(soleTree(), 1000, []int64{3000, c.place})
				for i := range c.members {
					e.Conns = append(e.Conns, connOf(i, 0, 1, ccIn(kinds[0], 9000, 0), 5))
				}
				last := &e.Conns[c.members-1]
				last.Cc.Window, last.Cc.Flight, last.Cc.Slow = c.window, flight, true
				next := checkDone(t, squared(e), switching(last.Id, kinds[1]))
				want := impl.Cc{Kind: kinds[1], Window: c.want, Thresh: c.want, Flight: flight}
				if got := next.Conns[c.members-1].Cc; got != want {
					t.Fatalf("%+v: %+v, not %+v", c, got, want)
				}
			}
		}
	}
}

func TestEngineForwardCodes(t *testing.T) {
	for _, now := range []int64{0, 1, 1000, impl.MaxTime - 1, impl.MaxTime} {
		e := busyEngine()
		e.Now, e.Lend = now, emptyLend(branchTree(), now)
		for _, ns := range []int64{0, 1, 2, 999, impl.MaxTime - now - 1, impl.MaxTime - now} {
			if ns >= 0 && now+ns <= impl.MaxTime {
				next := checkDone(t, e, forwarding(ns))
				if next.Now != now+ns || next.Lend.Own[0].At != now+ns {
					t.Fatal(next)
				}
			}
		}
		for _, ns := range append(noTimes(), -now, impl.MaxTime-now+1, impl.MaxTime-now+2, math.MaxInt64-now) {
			if ns != 0 {
				checkRefused(t, e, forwarding(ns), impl.EgSize)
			}
		}
		if next := checkDone(t, e, forwarding(0)); !isSameEngine(next, e) {
			t.Fatal(next)
		}
	}
	e := engineOf(branchTree(), 0, []int64{3000})
	next := checkDone(t, e, forwarding(impl.MaxTime))
	checkRefused(t, next, forwarding(1), impl.EgSize)
	checkRefused(t, next, forwarding(impl.MaxTime), impl.EgSize)
	checkRefused(t, e, forwarding(impl.MaxTime+1), impl.EgSize)
}

func TestEngineForwardByHand(t *testing.T) {
	e := busyEngine()
	e.Lend = emptyLend(branchTree(), 1000)
	next := checkDone(t, e, forwarding(billion/2))
	checkLevels(t, next.Lend, wholeBytes(2000, 1000, 500, 250, 600), wholeBytes(4500, 3500, 2500, 2000, 1500))
	next = checkDone(t, next, forwarding(billion))
	checkLevels(t, next.Lend, wholeBytes(6000, 3000, 1500, 750, 1500), wholeBytes(6000, 4000, 3000, 2000, 1500))
	if next.Now != 1500001000 || next.Next != 15 {
		t.Fatal(next)
	}
}

func TestEngineForwardInTwoSteps(t *testing.T) {
	state := uint64(141)
	for _, tree := range append(shapes(), soleTree(), pairTree(), branchTree()) {
		for range 10 {
			e := engineOf(tree, mixed(&state)%1000000, []int64{9000})
			e.Lend = anyLevels(&state, e.Lend)
			for _, scale := range []int64{10, 1000000, 10 * billion, 400000 * billion} {
				a, b := mixed(&state)%scale, mixed(&state)%scale
				one := checkDone(t, e, forwarding(a+b))
				two := checkDone(t, checkDone(t, e, forwarding(a)), forwarding(b))
				if !isSameEngine(one, two) {
					t.Fatalf("%d and %d: %+v, and at once %+v", a, b, two, one)
				}
			}
		}
	}
}

// Each number of an argument at the ends of what there is.
func TestEngineAtEveryArgument(t *testing.T) {
	list := append(edges(), 2, 3, 10, 30, 1000000, 1000001)
	for _, e := range []impl.Engine{busyEngine(), fullEngine(40, 10), engineOf(soleTree(), 0, []int64{3000})} {
		for _, a := range list {
			for _, x := range []call{
				opening(a, 2, 1, 1), opening(25, a, 1, 1), opening(25, 2, a, 1), opening(25, 2, 1, a), opening(a, a, a, a),
				closing(a), forwarding(a), submitting(a, a), submitting(10, a), submitting(a, 10), acking(a, a), acking(10, a),
				acking(a, 10), losing(a, a), losing(10, a), losing(a, 10), switching(a, a), switching(10, a), switching(a, 2),
			} {
				checkCall(t, e, x)
			}
		}
	}
}
