package tests

import (
	"cmp"
	"math"
	"slices"
	"testing"

	"loop.example/g00147/impl"
)

func connOf(id int64, leaf int64, place int64, cc impl.Cc, sizes ...int64) impl.Conn {
	return impl.Conn{Id: id, Leaf: leaf, Place: place, Cc: cc, Sizes: sizes}
}

// ccIn has something in each field.
func ccIn(kind int64, window int64, flight int64) impl.Cc {
	return impl.Cc{
		Kind: kind, Window: window, Thresh: 12000, Flight: flight, Acked: 700,
		Last: 20000, Origin: 9000, Start: 50, Friend: 8000,
	}
}

func copiedConn(c impl.Conn) impl.Conn {
	c.Sizes = slices.Clone(c.Sizes)
	return c
}

func copiedEngine(e impl.Engine) impl.Engine {
	e.Lend = copiedLend(e.Lend)
	e.Places = slices.Clone(e.Places)
	for i, p := range e.Places {
		e.Places[i] = copiedPlace(p)
	}
	e.Conns = slices.Clone(e.Conns)
	for i, c := range e.Conns {
		e.Conns[i] = copiedConn(c)
	}
	return e
}

// changedEngine leaves the one that it is given as it is.
func changedEngine(e impl.Engine, change func(*impl.Engine)) impl.Engine {
	e = copiedEngine(e)
	change(&e)
	return e
}

// squared gives each place the Members and the Flight of its connections.
func squared(e impl.Engine) impl.Engine {
	e = copiedEngine(e)
	for i := range e.Places {
		e.Places[i].Members, e.Places[i].Flight = nil, 0
	}
	for _, c := range e.Conns {
		if hasPlaceByWords(e, c.Place) {
			p := &e.Places[c.Place]
			p.Members = append(p.Members, c.Id)
			p.Flight += c.Cc.Flight
		}
	}
	return e
}

func changedAndSquared(e impl.Engine, change func(*impl.Engine)) impl.Engine {
	return squared(changedEngine(e, change))
}

// fullLendAt is at any number, also at one that is no time.
func fullLendAt(tree []impl.Class, at int64) impl.Lend {
	l := emptyLend(tree, at)
	for i, c := range tree {
		l.Own[i].Level = c.Burst * billion
		l.Top[i].Level = c.Burst * billion
	}
	return l
}

// engineOf has full buckets, and a place for each window.
func engineOf(tree []impl.Class, now int64, windows []int64, conns ...impl.Conn) impl.Engine {
	e := impl.Engine{Now: now, Lend: fullLendAt(tree, now), Conns: conns}
	for _, window := range windows {
		e.Places = append(e.Places, placeOf(window, 0))
	}
	return squared(e)
}

func pairTree() []impl.Class {
	return []impl.Class{
		{Parent: -1, Rate: 100000, Ceil: 200000, Burst: 20000},
		{Parent: 0, Rate: 50000, Ceil: 200000, Burst: 6000},
		{Parent: 0, Rate: 1000, Ceil: 150000, Burst: 3000},
	}
}

func soleTree() []impl.Class { return []impl.Class{lone(1000000, 1000000, 15000)} }

// busyEngine has something in each field, and room at each gate for some.
func busyEngine() impl.Engine {
	e := engineOf(branchTree(), 1000, []int64{60000, 9000, 3000},
		connOf(10, 2, 0, ccIn(impl.CcReno, 15000, 1500), 1000, 200),
		connOf(20, 3, 1, ccIn(impl.CcCubic, 9000, 3000)),
		connOf(30, 4, 0, ccIn(impl.CcCubic, 3000, 2500), 501, 500, 7),
		connOf(40, 2, 1, ccIn(impl.CcReno, 20000, 0), 1500),
	)
	e.Lend = withLevels(e.Lend, wholeBytes(5000, 3000, 900, 2000, 1400), wholeBytes(6000, 4000, 2500, 1800, 1500))
	e.Next = 15
	return e
}

// fullEngine has so many connections, in turn to each of the places.
func fullEngine(n int, places int) impl.Engine {
	e := engineOf(branchTree(), 1000, slices.Repeat([]int64{60000}, places))
	for i := range n {
		kind := int64(impl.CcReno + i%2)
		c := connOf(int64(10+20*i), int64(2+i%3), int64(i%places), ccIn(kind, 15000, int64(i)*100), 1, 2)
		e.Conns = append(e.Conns, c)
	}
	return squared(e)
}

func isSameConn(a impl.Conn, b impl.Conn) bool {
	return a.Id == b.Id && a.Leaf == b.Leaf && a.Place == b.Place && a.Cc == b.Cc && slices.Equal(a.Sizes, b.Sizes)
}

func isSameEngine(a impl.Engine, b impl.Engine) bool {
	return a.Now == b.Now && a.Next == b.Next && isSameLend(a.Lend, b.Lend) &&
		slices.EqualFunc(a.Places, b.Places, isSamePlace) && slices.EqualFunc(a.Conns, b.Conns, isSameConn)
}

// The plain account of the chapter.

func hasPlaceByWords(e impl.Engine, place int64) bool {
	return place >= 0 && place < int64(len(e.Places))
}

// placesByWords are the places as the connections want them.
func placesByWords(e impl.Engine) []impl.Place {
	var list []impl.Place
	for i, p := range e.Places {
		want := placeOf(p.Window, 0)
		for _, c := range e.Conns {
			if c.Place == int64(i) {
				want.Flight += c.Cc.Flight
				want.Members = append(want.Members, c.Id)
			}
		}
		list = append(list, want)
	}
	return list
}

func isConnByWords(e impl.Engine, leaves []int64, c impl.Conn) bool {
	if !isIdByWords(c.Id) || !slices.Contains(leaves, c.Leaf) || !hasPlaceByWords(e, c.Place) || !wantCcOk(c.Cc) {
		return false
	}
	for _, n := range c.Sizes {
		if !isSizeByWords(n) {
			return false
		}
	}
	return c.Cc.Kind != 3 && len(c.Sizes) <= 100
}

func wantEngineOk(e impl.Engine) bool {
	if !isOf(e.Now, 1e15) || !isOf(e.Next, 1000001) || len(e.Places) < 1 || len(e.Places) > 10 || len(e.Conns) > 40 {
		return false
	}
	if !wantLendOk(e.Lend) || e.Lend.Top[0].At != e.Now {
		return false
	}
	leaves := wantLeaves(e.Lend.Tree)
	for i, c := range e.Conns {
		if !isConnByWords(e, leaves, c) || i > 0 && c.Id <= e.Conns[i-1].Id {
			return false
		}
	}
	for _, p := range e.Places {
		if !wantPlaceOk(p) {
			return false
		}
	}
	return slices.EqualFunc(e.Places, placesByWords(e), isSamePlace)
}

func wantNewEngine(tree []impl.Class, places int64) (impl.Engine, bool) {
	lend, ok := wantNewLend(tree, 0)
	if !ok || places < 1 || places > 10 {
		return impl.Engine{}, false
	}
	e := impl.Engine{Lend: lend}
	for range places {
		e.Places = append(e.Places, placeOf(60000, 0))
	}
	return e, true
}

// An outcome is what a call answers: the Engine and the code beside it; of
// Grant the Id in the code's stead, and the size.
type outcome struct {
	engine impl.Engine
	code   int64
	size   int64
}

func isSameOutcome(a outcome, b outcome) bool {
	return a.code == b.code && a.size == b.size && isSameEngine(a.engine, b.engine)
}

// A verdict is a code, and whether it applies.
type verdict struct {
	applies bool
	code    int64
}

func firstThatApplies(list ...verdict) int64 {
	for _, v := range list {
		if v.applies {
			return v.code
		}
	}
	return 0
}

// numberOf is -1 where there is no connection of that Id.
func numberOf(e impl.Engine, id int64) int {
	for i, c := range e.Conns {
		if c.Id == id {
			return i
		}
	}
	return -1
}

// wantOf is what a call comes to that is about a connection: with what is
// changed, unless one of the verdicts on it applies.
func wantOf(e impl.Engine, id int64, judge func(impl.Conn) []verdict, change func(*impl.Engine, *impl.Conn)) outcome {
	if !wantEngineOk(e) {
		return outcome{code: 1}
	}
	i := numberOf(e, id)
	if i < 0 {
		return outcome{engine: e, code: 2}
	}
	if code := firstThatApplies(judge(e.Conns[i])...); code != 0 {
		return outcome{engine: e, code: code}
	}
	return outcome{engine: changedEngine(e, func(e *impl.Engine) { change(e, &e.Conns[i]) })}
}

func wantOpen(e impl.Engine, id int64, leaf int64, place int64, kind int64) outcome {
	if !wantEngineOk(e) {
		return outcome{code: 1}
	}
	code := firstThatApplies(
		verdict{!isIdByWords(id) || numberOf(e, id) >= 0, 2},
		verdict{!slices.Contains(wantLeaves(e.Lend.Tree), leaf), 3},
		verdict{!hasPlaceByWords(e, place), 4},
		verdict{kind != 1 && kind != 2, 5},
		verdict{len(e.Conns) == 40, 6},
	)
	if code != 0 {
		return outcome{engine: e, code: code}
	}
	cc, _ := wantNewCc(kind)
	return outcome{engine: changedEngine(e, func(e *impl.Engine) {
		e.Conns = append(e.Conns, connOf(id, leaf, place, cc))
		slices.SortFunc(e.Conns, func(a impl.Conn, b impl.Conn) int { return cmp.Compare(a.Id, b.Id) })
		e.Places[place], _ = wantJoin(e.Places[place], id)
	})}
}

func wantSubmit(e impl.Engine, id int64, n int64) outcome {
	judge := func(c impl.Conn) []verdict {
		return []verdict{{!isSizeByWords(n), 7}, {len(c.Sizes) == 100, 6}}
	}
	return wantOf(e, id, judge, func(e *impl.Engine, c *impl.Conn) { c.Sizes = append(c.Sizes, n) })
}

// inTurn are the connections from Next on, and behind the last one from the first on.
func inTurn(e impl.Engine) []impl.Conn {
	var first, then []impl.Conn
	for _, c := range e.Conns {
		if c.Id >= e.Next {
			first = append(first, c)
		} else {
			then = append(then, c)
		}
	}
	return append(first, then...)
}

func mayGo(e impl.Engine, c impl.Conn) bool {
	if len(c.Sizes) == 0 {
		return false
	}
	n := c.Sizes[0]
	_, fits := wantSent(c.Cc, n)
	return fits && wantRoom(e.Places[c.Place], n) && wantAsk(e.Lend, c.Leaf, e.Now, n) >= 0
}

func wantGrant(e impl.Engine) outcome {
	if !wantEngineOk(e) {
		return outcome{code: -1}
	}
	for _, c := range inTurn(e) {
		if !mayGo(e, c) {
			continue
		}
		n := c.Sizes[0]
		next := changedEngine(e, func(e *impl.Engine) {
			i := numberOf(*e, c.Id)
			e.Conns[i].Cc, _ = wantSent(c.Cc, n)
			e.Conns[i].Sizes = slices.Delete(e.Conns[i].Sizes, 0, 1)
			e.Places[c.Place], _ = wantClaim(e.Places[c.Place], n)
			e.Lend, _ = wantSpend(e.Lend, c.Leaf, e.Now, n)
			e.Next = c.Id + 1
		})
		return outcome{engine: next, code: c.Id, size: n}
	}
	return outcome{engine: e, code: -1}
}

func judgeFlight(n int64) func(impl.Conn) []verdict {
	return func(c impl.Conn) []verdict { return []verdict{{n < 1 || n > c.Cc.Flight, 7}} }
}

func wantAcked(e impl.Engine, id int64, n int64) outcome {
	return wantOf(e, id, judgeFlight(n), func(e *impl.Engine, c *impl.Conn) {
		switch c.Cc.Kind {
		case 1:
			c.Cc = wantRenoAck(c.Cc, n)
		case 2:
			c.Cc = wantCubicAck(c.Cc, n, e.Now)
		}
		e.Places[c.Place] = wantFree(e.Places[c.Place], n, false)
	})
}

func wantLost(e impl.Engine, id int64, n int64) outcome {
	return wantOf(e, id, judgeFlight(n), func(e *impl.Engine, c *impl.Conn) {
		c.Cc.Flight -= n
		switch c.Cc.Kind {
		case 1:
			c.Cc = wantRenoLoss(c.Cc)
		case 2:
			c.Cc = wantCubicLoss(c.Cc)
		}
		e.Places[c.Place] = wantFree(e.Places[c.Place], n, true)
	})
}

func wantClose(e impl.Engine, id int64) outcome {
	judge := func(impl.Conn) []verdict { return nil }
	return wantOf(e, id, judge, func(e *impl.Engine, c *impl.Conn) {
		e.Places[c.Place], _ = wantQuit(e.Places[c.Place], id, c.Cc.Flight)
		var others []impl.Conn
		for _, other := range e.Conns {
			if other.Id != id {
				others = append(others, other)
			}
		}
		e.Conns = others
	})
}

func wantSwitch(e impl.Engine, id int64, kind int64) outcome {
	judge := func(impl.Conn) []verdict { return []verdict{{kind != 1 && kind != 2, 5}} }
	return wantOf(e, id, judge, func(e *impl.Engine, c *impl.Conn) {
		window := max(min(c.Cc.Window, wantShare(e.Places[c.Place])), 3000)
		c.Cc = impl.Cc{Kind: kind, Window: window, Thresh: window, Flight: c.Cc.Flight}
	})
}

func wantForward(e impl.Engine, ns int64) outcome {
	if !wantEngineOk(e) {
		return outcome{code: 1}
	}
	if !isOf(ns, 1e15) || !isOf(e.Now+ns, 1e15) {
		return outcome{engine: e, code: 7}
	}
	return outcome{engine: changedEngine(e, func(e *impl.Engine) {
		e.Now += ns
		e.Lend = wantFilled(e.Lend, e.Now)
	})}
}

// A call is one of the functions with its arguments: what it does, what the
// plain account tells of it, and what is promised of one that is not refused.
type call struct {
	name    string
	args    []int64
	act     func(impl.Engine) outcome
	want    func(impl.Engine) outcome
	promise func(t *testing.T, before impl.Engine, got outcome)
}

func beCode(next impl.Engine, code int64) outcome { return outcome{engine: next, code: code} }

func opening(id int64, leaf int64, place int64, kind int64) call {
	return call{
		"Open", []int64{id, leaf, place, kind},
		func(e impl.Engine) outcome { return beCode(impl.Open(e, id, leaf, place, kind)) },
		func(e impl.Engine) outcome { return wantOpen(e, id, leaf, place, kind) },
		func(t *testing.T, before impl.Engine, got outcome) { checkIsOpened(t, before, got.engine, id) },
	}
}

func submitting(id int64, n int64) call {
	return call{
		"Submit", []int64{id, n},
		func(e impl.Engine) outcome { return beCode(impl.Submit(e, id, n)) },
		func(e impl.Engine) outcome { return wantSubmit(e, id, n) },
		func(t *testing.T, before impl.Engine, got outcome) { checkIsSubmitted(t, before, got.engine, id, n) },
	}
}

func granting() call {
	return call{
		"Grant", nil,
		func(e impl.Engine) outcome {
			next, id, n := impl.Grant(e)
			return outcome{next, id, n}
		},
		wantGrant,
		checkIsGranted,
	}
}

func acking(id int64, n int64) call {
	return call{
		"Acked", []int64{id, n},
		func(e impl.Engine) outcome { return beCode(impl.Acked(e, id, n)) },
		func(e impl.Engine) outcome { return wantAcked(e, id, n) },
		func(t *testing.T, before impl.Engine, got outcome) {
			checkIsOutOfFlight(t, before, got.engine, id, n)
			checkWindowsOfAcked(t, before, got.engine, id)
		},
	}
}

func losing(id int64, n int64) call {
	return call{
		"Lost", []int64{id, n},
		func(e impl.Engine) outcome { return beCode(impl.Lost(e, id, n)) },
		func(e impl.Engine) outcome { return wantLost(e, id, n) },
		func(t *testing.T, before impl.Engine, got outcome) {
			checkIsOutOfFlight(t, before, got.engine, id, n)
			checkWindowsOfLost(t, before, got.engine, id)
		},
	}
}

func closing(id int64) call {
	return call{
		"Close", []int64{id},
		func(e impl.Engine) outcome { return beCode(impl.Close(e, id)) },
		func(e impl.Engine) outcome { return wantClose(e, id) },
		func(t *testing.T, before impl.Engine, got outcome) { checkIsClosed(t, before, got.engine, id) },
	}
}

func switching(id int64, kind int64) call {
	return call{
		"Switch", []int64{id, kind},
		func(e impl.Engine) outcome { return beCode(impl.Switch(e, id, kind)) },
		func(e impl.Engine) outcome { return wantSwitch(e, id, kind) },
		func(t *testing.T, before impl.Engine, got outcome) { checkIsSwitched(t, before, got.engine, id, kind) },
	}
}

func forwarding(ns int64) call {
	return call{
		"Forward", []int64{ns},
		func(e impl.Engine) outcome { return beCode(impl.Forward(e, ns)) },
		func(e impl.Engine) outcome { return wantForward(e, ns) },
		func(t *testing.T, before impl.Engine, got outcome) { checkIsForwarded(t, before, got.engine, ns) },
	}
}

// The promise, call by call, told without the account.

// restOf has the connection and its place taken out: all that a call about it
// must let be.
func restOf(e impl.Engine, id int64, place int64) impl.Engine {
	return changedEngine(e, func(e *impl.Engine) {
		if i := numberOf(*e, id); i >= 0 {
			e.Conns = slices.Delete(e.Conns, i, i+1)
		}
		e.Places[place] = impl.Place{}
	})
}

func checkOthersStay(t *testing.T, before impl.Engine, after impl.Engine, id int64, place int64) {
	t.Helper()
	if a, b := restOf(before, id, place), restOf(after, id, place); !isSameEngine(a, b) {
		t.Fatalf("beside %d there was\n%+v, and is\n%+v", id, a, b)
	}
}

// connOfId wants one to be there.
func connOfId(t *testing.T, e impl.Engine, id int64) impl.Conn {
	t.Helper()
	i := numberOf(e, id)
	if i < 0 {
		t.Fatalf("%d is not in %+v", id, e)
	}
	return e.Conns[i]
}

func checkIsOpened(t *testing.T, before impl.Engine, after impl.Engine, id int64) {
	t.Helper()
	c := connOfId(t, after, id)
	if len(c.Sizes) > 0 || c.Cc.Flight != 0 || numberOf(before, id) >= 0 || !isMember(after.Places[c.Place], id) {
		t.Fatalf("opened in %+v: %+v", before, c)
	}
	checkOthersStay(t, before, after, id, c.Place)
	if next, code := impl.Close(after, id); code != 0 || !isSameEngine(next, before) {
		t.Fatalf("opened and closed, %+v is %+v", before, next)
	}
}

func checkIsSubmitted(t *testing.T, before impl.Engine, after impl.Engine, id int64, n int64) {
	t.Helper()
	a, b := connOfId(t, before, id), connOfId(t, after, id)
	if len(b.Sizes) != len(a.Sizes)+1 || b.Sizes[len(a.Sizes)] != n {
		t.Fatalf("%d submitted to %+v: %+v", n, a, b)
	}
	b.Sizes = b.Sizes[:len(a.Sizes)]
	if !isSameConn(a, b) || !isSamePlace(before.Places[a.Place], after.Places[a.Place]) {
		t.Fatalf("%d submitted to %+v: %+v", n, a, b)
	}
	checkOthersStay(t, before, after, id, a.Place)
}

// isStopped tells whether one of the gates is shut for a connection's first size.
func isStopped(e impl.Engine, c impl.Conn) bool {
	p, n := e.Places[c.Place], c.Sizes[0]
	return c.Cc.Flight+n > c.Cc.Window || p.Flight+n > p.Window || impl.Ask(e.Lend, c.Leaf, e.Now, n) == -1
}

func checkNobodyCould(t *testing.T, e impl.Engine, list []impl.Conn) {
	t.Helper()
	for _, c := range list {
		if len(c.Sizes) > 0 && !isStopped(e, c) {
			t.Fatalf("%+v is passed over in %+v", c, e)
		}
	}
}

func checkIsGranted(t *testing.T, before impl.Engine, got outcome) {
	t.Helper()
	coming := inTurn(before)
	if got.code == -1 {
		checkNobodyCould(t, before, coming)
		if got.size != 0 || !isSameEngine(got.engine, before) {
			t.Fatalf("nothing is granted by %+v, which is %+v", before, got)
		}
		return
	}
	a, b := connOfId(t, before, got.code), connOfId(t, got.engine, got.code)
	p, q := before.Places[a.Place], got.engine.Places[a.Place]
	ahead := slices.IndexFunc(coming, func(c impl.Conn) bool { return c.Id == got.code })
	checkNobodyCould(t, before, coming[:ahead])
	if len(a.Sizes) == 0 || isStopped(before, a) || a.Sizes[0] != got.size || got.engine.Next != a.Id+1 {
		t.Fatalf("granted to %+v: %+v", a, got)
	}
	if b.Cc.Flight != a.Cc.Flight+got.size || b.Cc.Flight > b.Cc.Window || q.Flight != p.Flight+got.size || q.Flight > q.Window {
		t.Fatalf("granted to %+v and %+v: %+v", a, p, got)
	}
	b.Cc.Flight, q.Flight, a.Sizes = a.Cc.Flight, p.Flight, a.Sizes[1:]
	if !isSameConn(a, b) || !isSamePlace(p, q) {
		t.Fatalf("granted to %+v and %+v: %+v", a, p, got)
	}
	got.engine.Next, got.engine.Lend = before.Next, before.Lend
	checkOthersStay(t, before, got.engine, a.Id, a.Place)
}

func checkIsOutOfFlight(t *testing.T, before impl.Engine, after impl.Engine, id int64, n int64) {
	t.Helper()
	a, b := connOfId(t, before, id), connOfId(t, after, id)
	p, q := before.Places[a.Place], after.Places[a.Place]
	if b.Cc.Flight != a.Cc.Flight-n || q.Flight != p.Flight-n || b.Cc.Kind != a.Cc.Kind {
		t.Fatalf("%d of %+v and %+v: %+v and %+v", n, a, p, b, q)
	}
	b.Cc = a.Cc
	if !isSameConn(a, b) || !slices.Equal(p.Members, q.Members) {
		t.Fatalf("%d of %+v and %+v: %+v and %+v", n, a, p, b, q)
	}
	checkOthersStay(t, before, after, id, a.Place)
}

func checkWindowsOfAcked(t *testing.T, before impl.Engine, after impl.Engine, id int64) {
	t.Helper()
	a, b := connOfId(t, before, id), connOfId(t, after, id)
	if b.Cc.Window < a.Cc.Window || after.Places[a.Place].Window < before.Places[a.Place].Window {
		t.Fatalf("what came through makes of %+v: %+v", before, after)
	}
}

func checkWindowsOfLost(t *testing.T, before impl.Engine, after impl.Engine, id int64) {
	t.Helper()
	a, b := connOfId(t, before, id), connOfId(t, after, id)
	left := max(a.Cc.Window/2, 3000)
	if a.Cc.Kind == impl.CcCubic {
		left = max(7*a.Cc.Window/10, 3000)
	}
	if b.Cc.Window != left || after.Places[a.Place].Window != max(before.Places[a.Place].Window/2, 3000) {
		t.Fatalf("what was lost makes of %+v: %+v", before, after)
	}
}

func checkIsClosed(t *testing.T, before impl.Engine, after impl.Engine, id int64) {
	t.Helper()
	c := connOfId(t, before, id)
	p, q := before.Places[c.Place], after.Places[c.Place]
	if numberOf(after, id) >= 0 || isMember(q, id) || q.Flight != p.Flight-c.Cc.Flight || q.Window != p.Window {
		t.Fatalf("%d closed in %+v: %+v", id, before, after)
	}
	if len(q.Members) != len(p.Members)-1 {
		t.Fatalf("%d closed in %+v: %+v", id, before, after)
	}
	checkOthersStay(t, before, after, id, c.Place)
}

func checkIsSwitched(t *testing.T, before impl.Engine, after impl.Engine, id int64, kind int64) {
	t.Helper()
	a, b := connOfId(t, before, id), connOfId(t, after, id)
	if b.Cc.Kind != kind || b.Cc.Window > a.Cc.Window || b.Cc.Window < 3000 || b.Cc.Flight != a.Cc.Flight {
		t.Fatalf("%+v switched: %+v", a, b)
	}
	if b.Cc.Window > impl.Share(before.Places[a.Place]) || b.Cc.Thresh != b.Cc.Window || b.Cc.Slow {
		t.Fatalf("%+v switched: %+v", a, b)
	}
	b.Cc = a.Cc
	if !isSameConn(a, b) || !isSamePlace(before.Places[a.Place], after.Places[a.Place]) {
		t.Fatalf("%+v switched: %+v", a, b)
	}
	checkOthersStay(t, before, after, id, a.Place)
}

func checkIsForwarded(t *testing.T, before impl.Engine, after impl.Engine, ns int64) {
	t.Helper()
	if after.Now != before.Now+ns {
		t.Fatalf("%d later than %+v: %+v", ns, before, after)
	}
	for i := range after.Lend.Tree {
		if after.Lend.Own[i] != impl.Fill(before.Lend.Own[i], after.Now) || after.Lend.Top[i] != impl.Fill(before.Lend.Top[i], after.Now) {
			t.Fatalf("%d later than %+v: %+v", ns, before, after)
		}
	}
	after.Now, after.Lend.Own, after.Lend.Top = before.Now, before.Lend.Own, before.Lend.Top
	if !isSameEngine(before, after) {
		t.Fatalf("%d later than %+v: %+v", ns, before, after)
	}
}

func checkEngineOk(t *testing.T, e impl.Engine, want bool) {
	t.Helper()
	if ok := impl.EngineOk(e); ok != want {
		t.Fatalf("EngineOk(%+v) = %v, not %v", e, ok, want)
	}
}

// checkCall holds a call against the account, and wants a right Engine to stay right.
func checkCall(t *testing.T, e impl.Engine, x call) outcome {
	t.Helper()
	got, want := x.act(e), x.want(e)
	if !isSameOutcome(got, want) {
		t.Fatalf("%s(%+v, %d) = %+v, not %+v", x.name, e, x.args, got, want)
	}
	right := wantEngineOk(e)
	checkEngineOk(t, got.engine, right)
	if right && (got.code == 0 || x.name == "Grant") {
		x.promise(t, e, got)
	}
	return got
}

// checkDone wants no code.
func checkDone(t *testing.T, e impl.Engine, x call) impl.Engine {
	t.Helper()
	got := checkCall(t, e, x)
	if got.code != 0 {
		t.Fatalf("%s(%+v, %d) tells %d", x.name, e, x.args, got.code)
	}
	return got.engine
}

// checkRefused wants a code, and the Engine to be as it is.
func checkRefused(t *testing.T, e impl.Engine, x call, code int64) {
	t.Helper()
	got := checkCall(t, e, x)
	if got.code != code || !isSameEngine(got.engine, e) {
		t.Fatalf("%s(%+v, %d) = %+v, not %d", x.name, e, x.args, got, code)
	}
}

func checkGrants(t *testing.T, e impl.Engine, id int64, n int64) impl.Engine {
	t.Helper()
	got := checkCall(t, e, granting())
	if got.code != id || got.size != n {
		t.Fatalf("Grant(%+v) = %d, %d, not %d, %d", e, got.code, got.size, id, n)
	}
	return got.engine
}

func checkGrantsNone(t *testing.T, e impl.Engine) {
	t.Helper()
	checkGrants(t, e, -1, 0)
}

// callsOn are such as a busy Engine, or one that is a little changed, takes or refuses.
func callsOn(id int64) []call {
	return []call{
		opening(25, 2, 1, impl.CcReno), opening(id, 2, 0, impl.CcCubic), submitting(id, 700), granting(),
		acking(id, 1), losing(id, 1), acking(id, 1500), losing(id, 1500),
		closing(id), switching(id, impl.CcReno), switching(id, impl.CcCubic), forwarding(5000000),
	}
}

// checkNoEngine wants the fixed answers for an Engine that is not right.
func checkNoEngine(t *testing.T, e impl.Engine) {
	t.Helper()
	checkEngineOk(t, e, false)
	if wantEngineOk(e) {
		t.Fatalf("the account takes %+v for right", e)
	}
	var calls []call
	for _, id := range []int64{-1, 10, 20, 30, 40, 1000001} {
		calls = append(calls, callsOn(id)...)
	}
	calls = append(calls, opening(-1, -1, -1, -1), submitting(10, 0), switching(10, 0), forwarding(-1), forwarding(0))
	for _, x := range calls {
		code := int64(impl.EgBad)
		if x.name == "Grant" {
			code = -1
		}
		if got := x.act(e); got.code != code || got.size != 0 || !isSameEngine(got.engine, impl.Engine{}) {
			t.Fatalf("%s(%+v, %d) = %+v", x.name, e, x.args, got)
		}
	}
}

// checkRightEngine wants an Engine to be right, and all that is made of it.
func checkRightEngine(t *testing.T, e impl.Engine) {
	t.Helper()
	checkEngineOk(t, e, true)
	if !wantEngineOk(e) {
		t.Fatalf("the account takes %+v for wrong", e)
	}
	for _, id := range []int64{10, 25, 30} {
		for _, x := range callsOn(id) {
			checkCall(t, e, x)
		}
	}
}

func checkIsRightEngine(t *testing.T, e impl.Engine, is bool) {
	t.Helper()
	if is {
		checkRightEngine(t, e)
	} else {
		checkNoEngine(t, e)
	}
}

func TestEngineLimits(t *testing.T) {
	codes := []int64{impl.EgBad, impl.EgId, impl.EgLeaf, impl.EgPlace, impl.EgKind, impl.EgFull, impl.EgSize}
	if impl.MaxPlaces != 10 || impl.MaxConns != 40 || !slices.Equal(codes, []int64{1, 2, 3, 4, 5, 6, 7}) {
		t.Fatal(impl.MaxPlaces, impl.MaxConns, codes)
	}
}

// Each number here is worked out from the words of the chapters.
func TestEngineByHand(t *testing.T) {
	e, ok := impl.NewEngine(pairTree(), 2)
	if !ok || e.Now != 0 || e.Next != 0 || len(e.Conns) != 0 || len(e.Places) != 2 || !isSamePlace(e.Places[1], placeOf(60000, 0)) {
		t.Fatal(e, ok)
	}
	e = checkDone(t, e, opening(7, 1, 0, impl.CcReno))
	e = checkDone(t, e, opening(3, 2, 0, impl.CcCubic))
	e = checkDone(t, e, submitting(7, 1500))
	e = checkDone(t, e, submitting(3, 1400))
	e = checkDone(t, e, submitting(3, 1300))
	e = checkDone(t, e, submitting(3, 900))
	e = checkGrants(t, e, 3, 1400)
	e = checkGrants(t, e, 7, 1500)
	e = checkGrants(t, e, 3, 1300)
	// Class 2 has 300 of its 3000 left, in both of its buckets.
	checkGrantsNone(t, e)
	checkLevels(t, e.Lend, wholeBytes(15800, 4500, 300), wholeBytes(15800, 4500, 300))
	// 600 bytes more take its Ceil 4 milliseconds; its own Rate brings 4 in them.
	e = checkDone(t, e, forwarding(3999999))
	checkGrantsNone(t, e)
	e = checkDone(t, e, forwarding(1))
	e = checkGrants(t, e, 3, 900)
	checkLevels(t, e.Lend, wholeBytes(15300, 4700, 304), wholeBytes(15700, 5300, 0))
	if e.Next != 4 || e.Places[0].Flight != 5100 || e.Conns[0].Cc.Flight != 3600 || e.Conns[1].Cc.Flight != 1500 {
		t.Fatal(e)
	}
	e = checkDone(t, e, acking(7, 1000))
	if e.Conns[1].Cc != (impl.Cc{Kind: 1, Window: 16000, Thresh: 1000000000, Flight: 500, Slow: true}) {
		t.Fatal(e)
	}
	// 1000 times 1500 / 60000 is 25.
	if !isSamePlace(e.Places[0], placeOf(60025, 4100, 3, 7)) {
		t.Fatal(e)
	}
	e = checkDone(t, e, losing(3, 600))
	if e.Conns[0].Cc != (impl.Cc{Kind: 2, Window: 10500, Thresh: 10500, Flight: 3000, Last: 15000}) {
		t.Fatal(e)
	}
	if !isSamePlace(e.Places[0], placeOf(30012, 3500, 3, 7)) {
		t.Fatal(e)
	}
	e = checkDone(t, e, switching(7, impl.CcCubic))
	if e.Conns[1].Cc != (impl.Cc{Kind: 2, Window: 15006, Thresh: 15006, Flight: 500}) {
		t.Fatal(e)
	}
	e = checkDone(t, e, closing(3))
	if !isSamePlace(e.Places[0], placeOf(30012, 500, 7)) || len(e.Conns) != 1 || e.Next != 4 {
		t.Fatal(e)
	}
}

func checkNewEngine(t *testing.T, tree []impl.Class, places int64) {
	t.Helper()
	want, wantOk := wantNewEngine(tree, places)
	e, ok := impl.NewEngine(tree, places)
	if ok != wantOk || !isSameEngine(e, want) {
		t.Fatalf("NewEngine(%v, %d) = %+v, %v, not %+v, %v", tree, places, e, ok, want, wantOk)
	}
	checkEngineOk(t, e, ok)
}

func TestEngineNew(t *testing.T) {
	for _, tree := range append(shapes(), soleTree(), pairTree(), branchTree()) {
		for places := int64(1); places <= 10; places++ {
			checkNewEngine(t, tree, places)
		}
		if e, ok := impl.NewEngine(tree, 10); !ok || len(e.Places) != 10 {
			t.Fatal(e, ok)
		}
	}
	star := starOf(6)
	lists := [][]impl.Class{nil, {}, starOf(31), make([]impl.Class, 3), {lone(2, 1, 1500)}, {lone(1, 1, 1499)}}
	for _, a := range faults() {
		for i := range star {
			lists = append(lists, changed(star, i, a.do))
		}
	}
	for _, list := range append(lists, soleTree(), star) {
		for _, places := range append(edges(), -1, 0, 1, 2, 9, 10, 11, 12) {
			checkNewEngine(t, list, places)
		}
	}
	for _, list := range lists {
		if e, ok := impl.NewEngine(list, 1); ok || !isSameEngine(e, impl.Engine{}) {
			t.Fatal(list, e, ok)
		}
	}
	for _, places := range []int64{0, -1, 11, math.MinInt64, math.MaxInt64} {
		if e, ok := impl.NewEngine(star, places); ok || !isSameEngine(e, impl.Engine{}) {
			t.Fatal(places, e, ok)
		}
	}
}

func TestEngineTimes(t *testing.T) {
	for _, now := range []int64{0, 1, 1000, impl.MaxTime - 1, impl.MaxTime} {
		e := busyEngine()
		e.Now, e.Lend = now, fullLendAt(branchTree(), now)
		checkRightEngine(t, e)
		for _, other := range []int64{now - 1, now + 1, -1, math.MinInt64, math.MaxInt64} {
			checkNoEngine(t, changedEngine(e, func(e *impl.Engine) { e.Now = other }))
			checkNoEngine(t, changedEngine(e, func(e *impl.Engine) { e.Lend = fullLendAt(branchTree(), other) }))
		}
	}
	// The Lend is at Now, but that is no time.
	for _, now := range noTimes() {
		e := busyEngine()
		e.Now, e.Lend = now, fullLendAt(branchTree(), now)
		checkNoEngine(t, e)
	}
}

func TestEngineOfWrongLend(t *testing.T) {
	e := busyEngine()
	e.Lend = fullLendAt(branchTree(), e.Now)
	checkRightEngine(t, e)
	for _, change := range wrongCounts() {
		checkNoEngine(t, changedEngine(e, func(e *impl.Engine) { change(&e.Lend) }))
	}
	for _, change := range wrongTills() {
		for i := range e.Lend.Tree {
			checkNoEngine(t, changedEngine(e, func(e *impl.Engine) { change(&e.Lend.Own[i]) }))
			checkNoEngine(t, changedEngine(e, func(e *impl.Engine) { change(&e.Lend.Top[i]) }))
		}
	}
	for i := range e.Lend.Tree {
		for _, at := range []int64{e.Now - 1, e.Now + 1} {
			checkNoEngine(t, changedEngine(e, func(e *impl.Engine) { e.Lend.Own[i].At = at }))
			checkNoEngine(t, changedEngine(e, func(e *impl.Engine) { e.Lend.Top[i].At = at }))
		}
	}
}

func TestEngineCountsOfPlaces(t *testing.T) {
	for n := range 13 {
		e := engineOf(branchTree(), 1000, slices.Repeat([]int64{60000}, n))
		checkIsRightEngine(t, e, n >= 1 && n <= 10)
		if n >= 1 {
			last := connOf(10, 2, int64(n)-1, ccIn(impl.CcReno, 9000, 600), 5)
			checkIsRightEngine(t, engineOf(branchTree(), 1000, slices.Repeat([]int64{60000}, n), last), n <= 10)
		}
	}
	checkNoEngine(t, engineOf(branchTree(), 1000, slices.Repeat([]int64{60000}, 1000)))
	checkNoEngine(t, impl.Engine{})
}

func TestEngineWindowsOfPlaces(t *testing.T) {
	for i := range busyEngine().Places {
		for _, window := range append(edges(), 2999, 3000, 3001) {
			e := changedEngine(busyEngine(), func(e *impl.Engine) { e.Places[i].Window = window })
			checkIsRightEngine(t, e, window >= 3000 && window <= 1000000000)
		}
	}
}

func TestEngineFlightsOfPlaces(t *testing.T) {
	for i, p := range busyEngine().Places {
		for _, flight := range append(edges(), p.Flight-1, p.Flight, p.Flight+1, p.Flight-1500, 2*p.Flight) {
			e := changedEngine(busyEngine(), func(e *impl.Engine) { e.Places[i].Flight = flight })
			checkIsRightEngine(t, e, flight == p.Flight)
		}
	}
	// What belongs to one place is in flight at another.
	checkNoEngine(t, changedEngine(busyEngine(), func(e *impl.Engine) {
		e.Places[0].Flight, e.Places[1].Flight = e.Places[1].Flight, e.Places[0].Flight
	}))
	// Together they come just to a window, and to one byte more.
	for _, more := range []int64{-1, 0, 1} {
		e := engineOf(soleTree(), 1000, []int64{1000000000, 3000},
			connOf(10, 0, 0, ccIn(impl.CcReno, 9000, 400000000)),
			connOf(20, 0, 0, ccIn(impl.CcReno, 9000, 600000000+more)),
			connOf(30, 0, 1, ccIn(impl.CcCubic, 9000, 1000000000)),
		)
		checkIsRightEngine(t, e, more <= 0)
	}
	e := engineOf(soleTree(), 1000, []int64{1000000000})
	for i := range int64(40) {
		e.Conns = append(e.Conns, connOf(i, 0, 0, ccIn(impl.CcReno, 9000, 1000000000)))
	}
	checkNoEngine(t, squared(e))
}

func TestEngineMembers(t *testing.T) {
	for _, c := range []struct {
		place   int
		members []int64
		right   bool
	}{
		{0, []int64{10, 30}, true},
		{0, []int64{30, 10}, false},
		{0, []int64{10}, false},
		{0, []int64{30}, false},
		{0, nil, false},
		{0, []int64{10, 20, 30}, false},
		{0, []int64{10, 30, 30}, false},
		{0, []int64{10, 10, 30}, false},
		{0, []int64{10, 20}, false},
		{0, []int64{20, 40}, false},
		{0, []int64{9, 30}, false},
		{0, []int64{10, 31}, false},
		{0, []int64{10, 30, 50}, false},
		{0, []int64{0, 10, 30}, false},
		{0, []int64{-1, 10, 30}, false},
		{0, []int64{10, 30, 1000001}, false},
		{1, []int64{20, 40}, true},
		{1, []int64{20, 30, 40}, false},
		{1, []int64{20}, false},
		{2, nil, true},
		{2, []int64{}, true},
		{2, []int64{10}, false},
		{2, []int64{50}, false},
		{2, []int64{0}, false},
	} {
		e := changedEngine(busyEngine(), func(e *impl.Engine) { e.Places[c.place].Members = c.members })
		checkIsRightEngine(t, e, c.right)
	}
	// One is a member of another place.
	checkNoEngine(t, changedEngine(busyEngine(), func(e *impl.Engine) {
		e.Places[0].Members, e.Places[2].Members = []int64{10}, []int64{30}
	}))
	checkNoEngine(t, changedEngine(busyEngine(), func(e *impl.Engine) {
		e.Places[0].Members, e.Places[1].Members = e.Places[1].Members, e.Places[0].Members
	}))
	checkNoEngine(t, changedEngine(busyEngine(), func(e *impl.Engine) { e.Conns[1].Place = 2 }))
	checkRightEngine(t, changedAndSquared(busyEngine(), func(e *impl.Engine) { e.Conns[1].Place = 2 }))
}

func TestEngineCountsOfConns(t *testing.T) {
	for _, n := range []int{0, 1, 2, 20, 39, 40, 41, 42, 50} {
		for _, places := range []int{1, 2, 10} {
			checkIsRightEngine(t, fullEngine(n, places), n <= 40)
		}
	}
	checkNoEngine(t, fullEngine(51, 1))
	checkNoEngine(t, fullEngine(1000, 10))
}

func TestEngineIds(t *testing.T) {
	for _, c := range []struct {
		ids   [4]int64
		right bool
	}{
		{[4]int64{0, 1, 2, 3}, true},
		{[4]int64{0, 20, 30, 1000000}, true},
		{[4]int64{999997, 999998, 999999, 1000000}, true},
		{[4]int64{-1, 20, 30, 40}, false},
		{[4]int64{math.MinInt64, 20, 30, 40}, false},
		{[4]int64{10, 20, 30, 1000001}, false},
		{[4]int64{10, 20, 30, math.MaxInt64}, false},
		{[4]int64{10, 10, 30, 40}, false},
		{[4]int64{10, 20, 20, 40}, false},
		{[4]int64{10, 20, 30, 30}, false},
		{[4]int64{10, 20, 30, 10}, false},
		{[4]int64{20, 10, 30, 40}, false},
		{[4]int64{10, 30, 20, 40}, false},
		{[4]int64{10, 20, 40, 30}, false},
		{[4]int64{40, 30, 20, 10}, false},
	} {
		for _, places := range [][4]int64{{0, 1, 0, 1}, {0, 0, 0, 0}, {2, 1, 0, 1}} {
			e := changedAndSquared(busyEngine(), func(e *impl.Engine) {
				for i, id := range c.ids {
					e.Conns[i].Id, e.Conns[i].Place = id, places[i]
				}
			})
			checkIsRightEngine(t, e, c.right)
			// The Members are in order, whatever the connections are.
			for i := range e.Places {
				slices.Sort(e.Places[i].Members)
			}
			checkIsRightEngine(t, e, c.right)
		}
	}
}

func TestEngineLeaves(t *testing.T) {
	for i := range busyEngine().Conns {
		for _, leaf := range append(edges(), -2, -1, 0, 1, 2, 3, 4, 5, 6) {
			e := changedEngine(busyEngine(), func(e *impl.Engine) { e.Conns[i].Leaf = leaf })
			checkIsRightEngine(t, e, leaf >= 2 && leaf <= 4)
		}
	}
	for _, leaf := range []int64{-1, 0, 1} {
		e := engineOf(soleTree(), 1000, []int64{60000}, connOf(10, leaf, 0, ccIn(impl.CcReno, 9000, 0), 5))
		checkIsRightEngine(t, e, leaf == 0)
	}
}

func TestEnginePlacesOfConns(t *testing.T) {
	for i := range busyEngine().Conns {
		for _, place := range append(edges(), -2, -1, 0, 1, 2, 3, 4) {
			e := changedAndSquared(busyEngine(), func(e *impl.Engine) { e.Conns[i].Place = place })
			checkIsRightEngine(t, e, place >= 0 && place <= 2)
		}
	}
}

func TestEngineControllers(t *testing.T) {
	for i := range busyEngine().Conns {
		for _, f := range ccFields() {
			for _, x := range append(edges(), f.low-1, f.low, f.low+1, f.high-1, f.high, f.high+1) {
				e := changedEngine(busyEngine(), func(e *impl.Engine) {
					// Others in flight there would come to more than a place may hold.
					e.Places[0].Window, e.Places[1].Window = 1000000000, 1000000000
					for k := range e.Conns {
						e.Conns[k].Cc.Flight = 0
					}
					e.Conns[i].Cc = f.with(e.Conns[i].Cc, x)
				})
				checkIsRightEngine(t, squared(e), f.holds(x) && (f.name != "Kind" || x != impl.CcProbe))
			}
		}
	}
}

func TestEngineSizes(t *testing.T) {
	for i := range busyEngine().Conns {
		for _, n := range append(edges(), 0, 1, 1500, 1501) {
			is := n >= 1 && n <= 1500
			for _, sizes := range [][]int64{{n}, {n, 5}, {5, n}, {5, n, 5}} {
				e := changedEngine(busyEngine(), func(e *impl.Engine) { e.Conns[i].Sizes = sizes })
				checkIsRightEngine(t, e, is)
			}
		}
		for _, n := range []int{0, 1, 99, 100, 101, 102, 1000} {
			e := changedEngine(busyEngine(), func(e *impl.Engine) { e.Conns[i].Sizes = manySizes(n, 5) })
			checkIsRightEngine(t, e, n <= 100)
		}
		for _, n := range []int{99, 100} {
			e := changedEngine(busyEngine(), func(e *impl.Engine) { e.Conns[i].Sizes = append(manySizes(n-1, 5), 1501) })
			checkNoEngine(t, e)
		}
	}
}

func TestEngineNext(t *testing.T) {
	for _, next := range append(edges(), -1, 0, 1, 999999, 1000000, 1000001, 1000002) {
		for _, e := range []impl.Engine{busyEngine(), engineOf(soleTree(), 0, []int64{3000})} {
			e.Next = next
			checkIsRightEngine(t, e, next >= 0 && next <= 1000001)
		}
	}
}

// An empty list and nil are the same value, wherever it stands.
func TestEngineEmptyLists(t *testing.T) {
	e := engineOf(soleTree(), 1000, []int64{60000, 3000})
	e.Conns, e.Places[0].Members, e.Places[1].Members = []impl.Conn{}, []int64{}, []int64{}
	checkRightEngine(t, e)
	next := checkDone(t, e, opening(10, 0, 1, impl.CcReno))
	next.Conns[0].Sizes = []int64{}
	checkRightEngine(t, next)
	next.Conns[0].Sizes = nil
	checkRightEngine(t, next)
	checkNoEngine(t, changedEngine(e, func(e *impl.Engine) { e.Places = []impl.Place{} }))
	checkNoEngine(t, changedEngine(e, func(e *impl.Engine) { e.Lend.Tree = []impl.Class{} }))
	checkNoEngine(t, impl.Engine{Lend: impl.Lend{Tree: []impl.Class{}}, Places: []impl.Place{}, Conns: []impl.Conn{}})
}
