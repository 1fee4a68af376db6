package tests

import (
	"fmt"
	"math"
	"reflect"
	"runtime"
	"slices"
	"sync"
	"testing"
	"time"

	"loop.example/g00147/impl"
)

// An account knows of a connection where it is, what waits and what is in flight.
type account struct {
	leaf, place, kind int64
	waits             []int64
	flight            int64
}

// An engineRow goes on from a new Engine. Beside it stand accounts that know
// nothing of windows and classes.
type engineRow struct {
	t     *testing.T
	state uint64
	e     impl.Engine
	books map[int64]*account
	ids   int64
	met   map[string]int
}

func newEngineRow(t *testing.T, seed uint64, tree []impl.Class, places int64, ids int64) *engineRow {
	t.Helper()
	e, ok := impl.NewEngine(tree, places)
	if !ok {
		t.Fatal(tree, places)
	}
	return &engineRow{t: t, state: seed, e: e, books: map[int64]*account{}, ids: ids, met: map[string]int{}}
}

// check wants all that the accounts know to be what the Engine tells.
func (r *engineRow) check() {
	r.t.Helper()
	flights := make([]int64, len(r.e.Places))
	members := make([][]int64, len(r.e.Places))
	for _, c := range r.e.Conns {
		book := r.books[c.Id]
		if book == nil || c.Leaf != book.leaf || c.Place != book.place || c.Cc.Kind != book.kind || c.Cc.Flight != book.flight {
			r.t.Fatalf("%+v, not %+v", c, book)
		}
		if !slices.Equal(c.Sizes, book.waits) {
			r.t.Fatalf("%+v, not %+v", c, book)
		}
		flights[c.Place] += c.Cc.Flight
		members[c.Place] = append(members[c.Place], c.Id)
	}
	if len(r.e.Conns) != len(r.books) {
		r.t.Fatal(r.e.Conns, r.books)
	}
	for i, p := range r.e.Places {
		if p.Flight != flights[i] || !slices.Equal(p.Members, members[i]) {
			r.t.Fatalf("%+v, not %d and %v", p, flights[i], members[i])
		}
	}
	checkEngineOk(r.t, r.e, true)
}

// do goes on with what a call answers, and tells whether it was done.
func (r *engineRow) do(x call) bool {
	r.t.Helper()
	got := checkCall(r.t, r.e, x)
	r.met[fmt.Sprint(x.name, " ", got.code)]++
	r.e = got.engine
	return got.code == 0
}

func (r *engineRow) anyId() int64 {
	if len(r.e.Conns) == 0 || mixed(&r.state)%20 == 0 {
		return mixed(&r.state) % r.ids
	}
	return r.e.Conns[mixed(&r.state)%int64(len(r.e.Conns))].Id
}

// oneOf is mostly one of the list, and at times another number.
func (r *engineRow) oneOf(list []int64) int64 {
	if mixed(&r.state)%15 == 0 {
		return mixed(&r.state)%35 - 2
	}
	return list[mixed(&r.state)%int64(len(list))]
}

func (r *engineRow) open() {
	id := mixed(&r.state) % r.ids
	leaf := r.oneOf(impl.Leaves(r.e.Lend.Tree))
	place := r.oneOf([]int64{0, mixed(&r.state) % int64(len(r.e.Places))})
	kind := r.oneOf([]int64{impl.CcReno, impl.CcCubic})
	if r.do(opening(id, leaf, place, kind)) {
		r.books[id] = &account{leaf: leaf, place: place, kind: kind}
	}
}

func (r *engineRow) submit() {
	id, n := r.anyId(), anySize(&r.state)
	if mixed(&r.state)%30 == 0 {
		n = []int64{0, 1501}[mixed(&r.state)%2]
	}
	if r.do(submitting(id, n)) {
		r.books[id].waits = append(r.books[id].waits, n)
	}
}

// tell counts which gates are shut for whom there is a size waiting.
func (r *engineRow) tell() {
	for _, c := range r.e.Conns {
		if len(c.Sizes) == 0 {
			continue
		}
		p, n := r.e.Places[c.Place], c.Sizes[0]
		shut := ""
		if c.Cc.Flight+n > c.Cc.Window {
			shut += " window"
		}
		if p.Flight+n > p.Window {
			shut += " place"
		}
		switch impl.Ask(r.e.Lend, c.Leaf, r.e.Now, n) {
		case -1:
			shut += " class"
		case c.Leaf:
		default:
			r.met["borrows"]++
		}
		r.met["shut"+shut]++
	}
}

func (r *engineRow) grant() {
	r.tell()
	before := r.e
	got := checkCall(r.t, before, granting())
	r.e = got.engine
	if got.code == -1 {
		r.met["no grant"]++
		return
	}
	book := r.books[got.code]
	if len(book.waits) == 0 || book.waits[0] != got.size {
		r.t.Fatalf("%d is granted to %d, of whom %v waits", got.size, got.code, book.waits)
	}
	book.waits = book.waits[1:]
	book.flight += got.size
	r.met["grant"]++
	if got.code < before.Next {
		r.met["grant behind the last one"]++
	} else if got.code > before.Next {
		r.met["grant past Next"]++
	}
	for _, c := range inTurn(before) {
		if c.Id == got.code {
			break
		}
		if len(c.Sizes) > 0 {
			r.met["grant past shut gates"]++
		}
	}
}

// some is how much of what is in flight: mostly not all, and at times too much.
func (r *engineRow) some(id int64) int64 {
	book := r.books[id]
	if book == nil || book.flight == 0 || mixed(&r.state)%30 == 0 {
		return beside(&r.state, 0, 1, 1500)
	}
	if mixed(&r.state)%8 == 0 {
		return book.flight + mixed(&r.state)%2
	}
	return 1 + mixed(&r.state)%book.flight
}

func (r *engineRow) acked() {
	id := r.anyId()
	n := r.some(id)
	if r.do(acking(id, n)) {
		r.books[id].flight -= n
	}
}

func (r *engineRow) lose() {
	id := r.anyId()
	n := r.some(id)
	if r.do(losing(id, n)) {
		r.books[id].flight -= n
		if p := r.e.Places[r.books[id].place]; p.Flight > p.Window {
			r.met["more in flight than a place's window"]++
		}
	}
}

func (r *engineRow) close() {
	id := r.anyId()
	if r.do(closing(id)) {
		delete(r.books, id)
	}
}

func (r *engineRow) turnOver() {
	id, kind := r.anyId(), r.oneOf([]int64{impl.CcReno, impl.CcCubic})
	if r.do(switching(id, kind)) {
		r.books[id].kind = kind
	}
}

func (r *engineRow) forward() {
	ns := mixed(&r.state) % []int64{1000, 1000000, 20000000, 3 * billion}[mixed(&r.state)%4]
	if mixed(&r.state)%30 == 0 {
		ns = []int64{-1, impl.MaxTime - r.e.Now + 1}[mixed(&r.state)%2]
	}
	r.do(forwarding(ns))
}

func (r *engineRow) move(losses int64) {
	r.t.Helper()
	switch mixed(&r.state) % 24 {
	case 0, 1:
		r.open()
	case 2, 3, 4, 5, 6, 7, 8:
		r.submit()
	case 9, 10, 11, 12, 13, 14, 15:
		r.grant()
	case 16, 17, 18:
		r.acked()
	case 19:
		if mixed(&r.state)%losses == 0 {
			r.lose()
		}
	case 20:
		if mixed(&r.state)%4 == 0 {
			r.close()
		}
	case 21:
		r.turnOver()
	default:
		r.forward()
	}
	r.check()
}

// finish lets all that waits go, acknowledges it and closes all connections:
// nothing is then left of them.
func (r *engineRow) finish() {
	r.t.Helper()
	for _, c := range r.e.Conns {
		if c.Cc.Flight > 0 {
			r.do(acking(c.Id, c.Cc.Flight))
			r.books[c.Id].flight = 0
		}
	}
	for range 5000 {
		next, id, n := impl.Grant(r.e)
		if id == -1 {
			if next, code := impl.Forward(r.e, 2*billion); code == 0 {
				r.e = next
			}
			if !slices.ContainsFunc(r.e.Conns, func(c impl.Conn) bool { return len(c.Sizes) > 0 }) {
				break
			}
			continue
		}
		book := r.books[id]
		if n != book.waits[0] {
			r.t.Fatal(id, n, book)
		}
		book.waits = book.waits[1:]
		r.e, _ = impl.Acked(next, id, n)
	}
	r.check()
	for _, c := range r.e.Conns {
		if len(c.Sizes) > 0 || c.Cc.Flight > 0 {
			r.t.Fatalf("%+v is left", c)
		}
		r.do(closing(c.Id))
		delete(r.books, c.Id)
	}
	r.check()
}

// wideTree lets much go at once.
func wideTree(tree []impl.Class) []impl.Class { return withBurst(withRates(tree, 1000), 1000000) }

func TestEngineRows(t *testing.T) {
	trees := [][]impl.Class{
		soleTree(), pairTree(), branchTree(), wideTree(soleTree()), wideTree(branchTree()), withSpare(forkOf(7)), wideTree(pairTree()),
	}
	met := map[string]int{}
	for k := range 70 {
		places := []int64{1, 2, 10}[k/7%3]
		ids := []int64{4, 12, 60, 1000001}[k/21%4]
		r := newEngineRow(t, uint64(7000+k), trees[k%7], places, ids)
		r.met = met
		for range 400 {
			r.move([]int64{1, 5}[k%2])
		}
		r.finish()
	}
	for _, name := range []string{
		"Open 0", "Open 2", "Open 3", "Open 4", "Open 5", "Submit 0", "Submit 2", "Submit 7",
		"Acked 0", "Acked 2", "Acked 7", "Lost 0", "Lost 2", "Lost 7", "Close 0", "Close 2",
		"Switch 0", "Switch 2", "Switch 5", "Forward 0", "Forward 7", "grant", "no grant", "borrows",
		"grant behind the last one", "grant past Next", "grant past shut gates", "more in flight than a place's window",
		"shut", "shut window", "shut place", "shut class", "shut window place", "shut place class", "shut window class",
		"shut window place class",
	} {
		if met[name] < 5 {
			t.Errorf("%s: met %d times", name, met[name])
		}
	}
}

// Many are opened and few closed: the Engine is full most of the time, and so are queues.
func TestEngineFullRow(t *testing.T) {
	r := newEngineRow(t, 142, wideTree(branchTree()), 10, 90)
	for range 900 {
		r.open()
		r.submit()
		r.move(5)
	}
	for range 500 {
		r.submit()
	}
	for range 300 {
		id := r.e.Conns[mixed(&r.state)%3].Id
		if r.do(submitting(id, 1)) {
			r.books[id].waits = append(r.books[id].waits, 1)
		}
		r.check()
	}
	if r.met["Open 6"] < 100 || r.met["Submit 6"] < 20 {
		t.Fatal(r.met)
	}
	r.finish()
}

// All that one connection submits is granted to it in order, once, whatever the
// others do meanwhile.
func TestEngineGrantsAllInOrder(t *testing.T) {
	state := uint64(143)
	for _, tree := range [][]impl.Class{soleTree(), pairTree(), branchTree()} {
		e, _ := impl.NewEngine(tree, 2)
		leaves := impl.Leaves(tree)
		submitted, granted := map[int64][]int64{}, map[int64][]int64{}
		for i := range int64(6) {
			e = checkDone(t, e, opening(i*7, leaves[i%int64(len(leaves))], i%2, 1+i%2))
		}
		for step := range 4000 {
			if step < 2000 && step%3 == 0 {
				id, n := mixed(&state)%6*7, anySize(&state)
				next, code := impl.Submit(e, id, n)
				if code == 0 {
					submitted[id] = append(submitted[id], n)
				}
				e = next
			}
			next, id, n := impl.Grant(e)
			if id == -1 {
				e, _ = impl.Forward(next, 400000000)
				continue
			}
			granted[id] = append(granted[id], n)
			e, _ = impl.Acked(next, id, n)
		}
		if !reflect.DeepEqual(submitted, granted) {
			t.Fatalf("%v, not %v", granted, submitted)
		}
	}
}

// What is granted below a class in a time is at most its Bound.
func TestEngineKeepsBounds(t *testing.T) {
	for _, tree := range [][]impl.Class{soleTree(), pairTree(), branchTree()} {
		e, _ := impl.NewEngine(tree, 1)
		start := e.Lend
		for i, leaf := range impl.Leaves(tree) {
			e = checkDone(t, e, opening(int64(i), leaf, 0, impl.CcCubic))
		}
		sent := make([]int64, len(tree))
		for range 2000 {
			for _, c := range e.Conns {
				e, _ = impl.Submit(e, c.Id, 1500)
			}
			next, id, n := impl.Grant(e)
			if id == -1 {
				e, _ = impl.Forward(next, 3000000)
				continue
			}
			for _, i := range impl.Path(tree, connOfId(t, next, id).Leaf) {
				sent[i] += n
			}
			e, _ = impl.Acked(next, id, n)
			for i := range tree {
				if bound := impl.Bound(start, int64(i), e.Now); sent[i] > bound {
					t.Fatal(i, sent[i], bound)
				}
			}
		}
		if sent[0] < 2*tree[0].Burst {
			t.Fatal(sent)
		}
	}
}

// numbersIn are all numbers of a value, at any depth.
func numbersIn(v reflect.Value) []*int64 {
	var list []*int64
	switch v.Kind() {
	case reflect.Int64:
		list = append(list, v.Addr().Interface().(*int64))
	case reflect.Struct:
		for i := range v.NumField() {
			list = append(list, numbersIn(v.Field(i))...)
		}
	case reflect.Slice:
		for i := range v.Len() {
			list = append(list, numbersIn(v.Index(i))...)
		}
	}
	return list
}

// Each number of an Engine by itself a little and much other than it is: each
// function tells what the account tells.
func TestEngineWithEachNumberChanged(t *testing.T) {
	e := busyEngine()
	numbers := numbersIn(reflect.ValueOf(&e).Elem())
	if len(numbers) != 1+5*4+2*5*4+3*2+4+4*(3+9)+6+1 {
		t.Fatal(len(numbers))
	}
	right, wrong := 0, 0
	for _, number := range numbers {
		was := *number
		for _, x := range []int64{math.MinInt64, -1, 0, 1, was - 1, was + 1, 2 * was, 1 << 53, math.MaxInt64 - 1, math.MaxInt64} {
			*number = x
			ok := wantEngineOk(e)
			checkEngineOk(t, e, ok)
			if ok {
				right++
			} else {
				wrong++
			}
			for _, c := range append(callsOn(10), callsOn(30)...) {
				checkCall(t, e, c)
			}
		}
		*number = was
	}
	if right < 200 || wrong < 500 || !isSameEngine(e, busyEngine()) {
		t.Fatal(right, wrong)
	}
}

// anyEngine is right, but for one number at times.
func anyEngine(state *uint64) impl.Engine {
	tree := []func() []impl.Class{
		soleTree, pairTree, branchTree, func() []impl.Class { return wideTree(anyTree(state, int(1+mixed(state)%8))) },
	}[mixed(state)%4]()
	leaves := wantLeaves(tree)
	var windows []int64
	for range 1 + mixed(state)%4 {
		windows = append(windows, anyWindow(state, 3000))
	}
	e := engineOf(tree, anyTime(state), windows)
	if mixed(state)%3 == 0 {
		e.Lend = anyLevels(state, e.Lend)
	}
	id := mixed(state) % 10
	for range mixed(state) % 8 {
		cc := anyCc(state)
		cc.Kind = 1 + mixed(state)%2
		cc.Flight = mixed(state) % []int64{2, 9000, 100000000}[mixed(state)%3]
		c := connOf(id, leaves[mixed(state)%int64(len(leaves))], mixed(state)%int64(len(windows)), cc)
		for range mixed(state) % 4 {
			c.Sizes = append(c.Sizes, anySize(state))
		}
		if len(c.Sizes) > 0 && mixed(state)%3 > 0 {
			// Just about to be shut, or to be open.
			c.Cc.Window = bounded(c.Cc.Flight+c.Sizes[0]+mixed(state)%3-1, 3000, 1000000000)
		}
		e.Conns = append(e.Conns, c)
		id += 1 + mixed(state)%[]int64{1, 5, 90000}[mixed(state)%3]
	}
	e = squared(e)
	for i := range e.Places {
		if mixed(state)%2 == 0 {
			e.Places[i].Window = bounded(e.Places[i].Flight+mixed(state)%3000, 3000, 1000000000)
		}
	}
	e.Next = mixed(state) % (id + 2)
	if mixed(state)%5 == 0 {
		numbers := numbersIn(reflect.ValueOf(&e).Elem())
		*numbers[mixed(state)%int64(len(numbers))] += mixed(state)%5 - 2
	}
	return e
}

func TestEngineMixed(t *testing.T) {
	state := uint64(144)
	met := map[string]int{}
	for range 4000 {
		e := anyEngine(&state)
		ok := wantEngineOk(e)
		checkEngineOk(t, e, ok)
		met[fmt.Sprint("right ", ok)]++
		id, flight := mixed(&state)%100, int64(0)
		if len(e.Conns) > 0 {
			c := e.Conns[mixed(&state)%int64(len(e.Conns))]
			id, flight = c.Id, c.Cc.Flight
		}
		n := beside(&state, 0, 1, 1500, flight, flight/2)
		for _, x := range []call{
			opening(beside(&state, 50, 1000, id), mixed(&state)%4, mixed(&state)%4, 1+mixed(&state)%2), submitting(id, n), granting(),
			acking(id, n), losing(id, n), closing(id), switching(id, 1+mixed(&state)%2), forwarding(anyTime(&state)),
		} {
			got := checkCall(t, e, x)
			if x.name == "Grant" {
				met[fmt.Sprint("Grant ", got.code >= 0)]++
			} else {
				met[fmt.Sprint(x.name, " ", got.code)]++
			}
		}
	}
	for _, name := range []string{
		"right true", "right false", "Open 0", "Open 1", "Open 2", "Open 3", "Open 4", "Submit 0", "Submit 7", "Grant true", "Grant false",
		"Acked 0", "Acked 7", "Lost 0", "Lost 7", "Close 0", "Switch 0", "Forward 0", "Forward 7",
	} {
		if met[name] < 50 {
			t.Errorf("%s: met %d times", name, met[name])
		}
	}
}

// The gates are asked at once; nothing of it goes on behind an answer.
func TestEngineNothingGoesOnBehindAGrant(t *testing.T) {
	full, busy := fullEngine(40, 10), busyEngine()
	before := runtime.NumGoroutine()
	for range 100 {
		impl.Grant(full)
		impl.Grant(busy)
		impl.Grant(impl.Engine{})
	}
	// Who is done may still be counted for a moment.
	for range 5000 {
		if runtime.NumGoroutine() <= before {
			return
		}
		time.Sleep(time.Millisecond)
	}
	t.Fatal(before, runtime.NumGoroutine())
}

// What one call answers hangs on no other call, however many there are at once.
func TestEngineCallsAtOnce(t *testing.T) {
	shared := busyEngine()
	calls := callsOn(10)
	for _, id := range []int64{20, 30, 40} {
		calls = append(calls, callsOn(id)...)
	}
	var wants []outcome
	for _, x := range calls {
		wants = append(wants, x.want(shared))
	}
	var workers sync.WaitGroup
	wrong := make([]int, 8)
	for k := range wrong {
		workers.Go(func() {
			for range 40 {
				for i, x := range calls {
					if !isSameOutcome(x.act(shared), wants[i]) {
						wrong[k]++
					}
				}
			}
		})
	}
	workers.Wait()
	if slices.Max(wrong) > 0 {
		t.Fatal(wrong)
	}
}

// However the gates' answers come, the same is granted each time.
func TestEngineGrantsTheSameEachTime(t *testing.T) {
	state := uint64(145)
	for range 40 {
		e := anyEngine(&state)
		want := wantGrant(e)
		for range 50 {
			if got := granting().act(e); !isSameOutcome(got, want) {
				t.Fatalf("Grant(%+v) = %+v, not %+v", e, got, want)
			}
		}
	}
}
