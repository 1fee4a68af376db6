package tests

import (
	"math"
	"slices"
	"testing"

	"loop.example/g00147/impl"
)

func wheelOf(now int64, timers ...impl.Timer) impl.Wheel {
	return impl.Wheel{Now: now, Timers: timers}
}

// wheelOfMany has n timers of the Ids from 0 on, each an even time later than the one ahead.
func wheelOfMany(n int) impl.Wheel {
	w := impl.Wheel{Now: 10}
	for i := range int64(n) {
		w.Timers = append(w.Timers, impl.Timer{Id: i, At: 12 + 2*i})
	}
	return w
}

func isSameWheel(a impl.Wheel, b impl.Wheel) bool {
	return a.Now == b.Now && slices.Equal(a.Timers, b.Timers)
}

func isZeroWheel(w impl.Wheel) bool { return w.Now == 0 && len(w.Timers) == 0 }

// wantWheelOk holds every timer against every other one.
func wantWheelOk(w impl.Wheel) bool {
	for i, x := range w.Timers {
		if !isOf(x.Id, 1e6) || !isOf(x.At, 1e15) || x.At <= w.Now {
			return false
		}
		for _, behind := range w.Timers[i+1:] {
			if behind.Id == x.Id || behind.At < x.At || behind.At == x.At && behind.Id < x.Id {
				return false
			}
		}
	}
	return isOf(w.Now, 1e15) && len(w.Timers) <= 200
}

// A plain list of timers knows of no order: what is first is looked for each time.
type plainList struct {
	now   int64
	times map[int64]int64
}

func plainOf(w impl.Wheel) plainList {
	p := plainList{now: w.Now, times: map[int64]int64{}}
	for _, x := range w.Timers {
		p.times[x.Id] = x.At
	}
	return p
}

func (p plainList) first() (impl.Timer, bool) {
	best, found := impl.Timer{}, false
	for id, at := range p.times {
		if !found || at < best.At || at == best.At && id < best.Id {
			best, found = impl.Timer{Id: id, At: at}, true
		}
	}
	return best, found
}

func (p plainList) takeFirstBy(now int64) (int64, bool) {
	x, found := p.first()
	if !found || x.At > now {
		return 0, false
	}
	delete(p.times, x.Id)
	return x.Id, true
}

func (p plainList) wheel() impl.Wheel {
	w := impl.Wheel{Now: p.now}
	rest := plainList{times: map[int64]int64{}}
	for id, at := range p.times {
		rest.times[id] = at
	}
	for {
		x, found := rest.first()
		if !found {
			return w
		}
		delete(rest.times, x.Id)
		w.Timers = append(w.Timers, x)
	}
}

func wantArm(w impl.Wheel, id int64, at int64) (impl.Wheel, bool) {
	if !wantWheelOk(w) || !isOf(id, 1e6) || !isOf(at, 1e15) || at <= w.Now {
		return impl.Wheel{}, false
	}
	p := plainOf(w)
	p.times[id] = at
	if len(p.times) > 200 {
		return impl.Wheel{}, false
	}
	return p.wheel(), true
}

func wantCancel(w impl.Wheel, id int64) (impl.Wheel, bool) {
	if !wantWheelOk(w) {
		return impl.Wheel{}, false
	}
	p := plainOf(w)
	_, found := p.times[id]
	delete(p.times, id)
	return p.wheel(), found
}

func wantAdvance(w impl.Wheel, now int64) (impl.Wheel, []int64) {
	if !wantWheelOk(w) || !isOf(now, 1e15) || now < w.Now {
		return impl.Wheel{}, nil
	}
	p := plainOf(w)
	p.now = now
	var due []int64
	for {
		id, found := p.takeFirstBy(now)
		if !found {
			return p.wheel(), due
		}
		due = append(due, id)
	}
}

// wantLevel counts the milliseconds down instead of taking powers.
func wantLevel(now int64, at int64) (int64, int64) {
	if !isOf(now, 1e15) || !isOf(at, 1e15) || at < now {
		return -1, -1
	}
	level, slot := int64(0), at/1000000
	for d := at/1000000 - now/1000000; d >= 64 && level < 3; d /= 64 {
		level++
		slot /= 64
	}
	return level, slot % 64
}

func checkWheelOk(t *testing.T, w impl.Wheel, want bool) {
	t.Helper()
	if ok := impl.WheelOk(w); ok != want {
		t.Fatalf("WheelOk(%v) = %v, want %v", w, ok, want)
	}
}

func checkArm(t *testing.T, w impl.Wheel, id int64, at int64, want impl.Wheel) impl.Wheel {
	t.Helper()
	got, ok := impl.Arm(w, id, at)
	if !ok || !isSameWheel(got, want) {
		t.Fatalf("Arm(%v, %d, %d) = %v, %v, want %v, true", w, id, at, got, ok, want)
	}
	return got
}

func checkNoArm(t *testing.T, w impl.Wheel, id int64, at int64) {
	t.Helper()
	if got, ok := impl.Arm(w, id, at); ok || !isZeroWheel(got) {
		t.Fatalf("Arm(%v, %d, %d) = %v, %v, want the zero Wheel, false", w, id, at, got, ok)
	}
}

func checkCancel(t *testing.T, w impl.Wheel, id int64, want impl.Wheel, wantOk bool) impl.Wheel {
	t.Helper()
	got, ok := impl.Cancel(w, id)
	if ok != wantOk || !isSameWheel(got, want) {
		t.Fatalf("Cancel(%v, %d) = %v, %v, want %v, %v", w, id, got, ok, want, wantOk)
	}
	return got
}

func checkAdvance(t *testing.T, w impl.Wheel, now int64, want impl.Wheel, wantDue ...int64) impl.Wheel {
	t.Helper()
	got, due := impl.Advance(w, now)
	if !isSameWheel(got, want) || !slices.Equal(due, wantDue) {
		t.Fatalf("Advance(%v, %d) = %v, %v, want %v, %v", w, now, got, due, want, wantDue)
	}
	return got
}

func checkLevel(t *testing.T, now int64, at int64, wantLevel int64, wantSlot int64) {
	t.Helper()
	if level, slot := impl.Level(now, at); level != wantLevel || slot != wantSlot {
		t.Fatalf("Level(%d, %d) = %d, %d, want %d, %d", now, at, level, slot, wantLevel, wantSlot)
	}
}

// checkWheel holds all that is answered at these arguments against the plain list.
func checkWheel(t *testing.T, w impl.Wheel, id int64, at int64) {
	t.Helper()
	checkWheelOk(t, w, wantWheelOk(w))
	if want, ok := wantArm(w, id, at); ok {
		checkArm(t, w, id, at, want)
	} else {
		checkNoArm(t, w, id, at)
	}
	want, ok := wantCancel(w, id)
	checkCancel(t, w, id, want, ok)
	want, due := wantAdvance(w, at)
	checkAdvance(t, w, at, want, due...)
}

func noIds() []int64 {
	return []int64{math.MinInt64, -impl.MaxId, -1, impl.MaxId + 1, math.MaxInt64}
}

func wrongWheels() []impl.Wheel {
	a, b, c := impl.Timer{Id: 5, At: 30}, impl.Timer{Id: 7, At: 30}, impl.Timer{Id: 2, At: 40}
	list := []impl.Wheel{
		wheelOf(10, b, a, c), // Ids of one At fall
		wheelOf(10, a, c, b), // the times fall
		wheelOf(10, c, b, a),
		wheelOf(10, c, a),
		wheelOf(10, a, a), // one Id twice, at one time
		wheelOf(10, a, impl.Timer{Id: 5, At: 31}),
		wheelOf(10, a, b, c, impl.Timer{Id: 5, At: 50}), // and not side by side
		wheelOf(10, a, b, impl.Timer{Id: 5, At: 35}, c),
		wheelOf(30, a, b, c), // not later than Now
		wheelOf(31, a, b, c),
		wheelOf(30, impl.Timer{Id: 1, At: 29}, impl.Timer{Id: 2, At: 31}),
		wheelOf(0, impl.Timer{Id: 1, At: 0}),
		wheelOf(impl.MaxTime, impl.Timer{Id: 1, At: impl.MaxTime}),
		wheelOf(impl.MaxTime, impl.Timer{Id: 1, At: impl.MaxTime + 1}),
		wheelOfMany(impl.MaxTimers + 1),
		wheelOfMany(impl.MaxTimers + 50),
	}
	for _, now := range noTimes() {
		list = append(list, wheelOf(now), wheelOf(now, impl.Timer{Id: 1, At: 1}), wheelOf(now, impl.Timer{Id: 1, At: impl.MaxTime}))
	}
	for _, id := range noIds() {
		list = append(list, wheelOf(10, impl.Timer{Id: id, At: 30}), wheelOf(10, impl.Timer{Id: id, At: 20}, a, b, c), wheelOf(10, a, b, c, impl.Timer{Id: id, At: 50}))
	}
	for _, at := range noTimes() {
		list = append(list, wheelOf(10, impl.Timer{Id: 1, At: at}), wheelOf(10, impl.Timer{Id: 1, At: at}, a), wheelOf(10, a, impl.Timer{Id: 1, At: at}))
	}
	return list
}

func TestTimerLimits(t *testing.T) {
	if impl.MaxTimers != 200 || impl.MaxId != 1000000 {
		t.Fatal(impl.MaxTimers, impl.MaxId)
	}
}

func TestWheelOk(t *testing.T) {
	a, b, c := impl.Timer{Id: 5, At: 30}, impl.Timer{Id: 7, At: 30}, impl.Timer{Id: 2, At: 40}
	right := []impl.Wheel{
		{}, {Timers: []impl.Timer{}}, wheelOf(impl.MaxTime), wheelOf(10, a), wheelOf(10, a, b), wheelOf(10, a, b, c),
		wheelOf(0, a, b, c), wheelOf(29, a, b, c),
		wheelOf(0, impl.Timer{Id: 0, At: 1}),
		wheelOf(0, impl.Timer{Id: impl.MaxId, At: impl.MaxTime}),
		wheelOf(impl.MaxTime-1, impl.Timer{Id: 0, At: impl.MaxTime}, impl.Timer{Id: impl.MaxId, At: impl.MaxTime}),
		wheelOfMany(impl.MaxTimers - 1), wheelOfMany(impl.MaxTimers),
	}
	for _, w := range right {
		checkWheelOk(t, w, true)
	}
}

func TestWrongWheels(t *testing.T) {
	for _, w := range wrongWheels() {
		checkWheelOk(t, w, false)
		for _, id := range []int64{0, 1, 2, 5, 7, 300, impl.MaxId, -1} {
			checkCancel(t, w, id, impl.Wheel{}, false)
			for _, at := range []int64{50, 1000, impl.MaxTime} {
				checkNoArm(t, w, id, at)
			}
		}
		for _, now := range []int64{0, 10, 30, 31, 1000, impl.MaxTime, w.Now, -1} {
			checkAdvance(t, w, now, impl.Wheel{})
		}
	}
}

func TestArm(t *testing.T) {
	w := wheelOf(10)
	w = checkArm(t, w, 7, 30, wheelOf(10, impl.Timer{Id: 7, At: 30}))
	w = checkArm(t, w, 3, 30, wheelOf(10, impl.Timer{Id: 3, At: 30}, impl.Timer{Id: 7, At: 30}))
	w = checkArm(t, w, 9, 20, wheelOf(10, impl.Timer{Id: 9, At: 20}, impl.Timer{Id: 3, At: 30}, impl.Timer{Id: 7, At: 30}))
	// Of one Id there is one timer: the last that was armed.
	checkArm(t, w, 9, 20, w)
	w = checkArm(t, w, 9, 40, wheelOf(10, impl.Timer{Id: 3, At: 30}, impl.Timer{Id: 7, At: 30}, impl.Timer{Id: 9, At: 40}))
	w = checkArm(t, w, 7, 11, wheelOf(10, impl.Timer{Id: 7, At: 11}, impl.Timer{Id: 3, At: 30}, impl.Timer{Id: 9, At: 40}))
	checkArm(t, w, 5, 30, wheelOf(10, impl.Timer{Id: 7, At: 11}, impl.Timer{Id: 3, At: 30}, impl.Timer{Id: 5, At: 30}, impl.Timer{Id: 9, At: 40}))
}

func TestArmAtBounds(t *testing.T) {
	for _, now := range []int64{0, 1, 500, impl.MaxTime - 1} {
		for _, id := range []int64{0, 1, impl.MaxId - 1, impl.MaxId} {
			for _, at := range []int64{now + 1, impl.MaxTime} {
				checkArm(t, wheelOf(now), id, at, wheelOf(now, impl.Timer{Id: id, At: at}))
			}
			checkNoArm(t, wheelOf(now), id, now)
			checkNoArm(t, wheelOf(now), id, now-1)
			checkNoArm(t, wheelOf(now, impl.Timer{Id: id, At: impl.MaxTime}), id, now)
		}
	}
	for _, at := range []int64{0, 1, impl.MaxTime - 1, impl.MaxTime, impl.MaxTime + 1} {
		checkNoArm(t, wheelOf(impl.MaxTime), 1, at)
	}
}

func TestArmRefuses(t *testing.T) {
	w := wheelOf(10, impl.Timer{Id: 5, At: 30}, impl.Timer{Id: 7, At: 30})
	for _, id := range noIds() {
		checkNoArm(t, w, id, 50)
		checkNoArm(t, wheelOf(10), id, 50)
	}
	for _, at := range append(noTimes(), 0, 9, 10) {
		checkNoArm(t, w, 6, at)
		checkNoArm(t, w, 5, at)
		checkNoArm(t, wheelOf(10), 6, at)
	}
}

func TestArmToMaxTimers(t *testing.T) {
	const timers = impl.MaxTimers
	full := wheelOfMany(timers)
	checkArm(t, wheelOfMany(timers-1), timers-1, 12+2*(timers-1), full)
	for _, at := range []int64{11, 12, 13, 300, 9000, impl.MaxTime} {
		checkNoArm(t, full, timers, at)
		checkNoArm(t, full, impl.MaxId, at)
		for _, id := range []int64{0, 1, timers / 2, timers - 1} {
			want, _ := wantArm(full, id, at)
			got := checkArm(t, full, id, at, want)
			if len(got.Timers) != timers {
				t.Fatal(len(got.Timers))
			}
			checkNoArm(t, got, timers, at)
		}
	}
	// Whatever goes makes room for one.
	less, _ := impl.Cancel(full, 3)
	armed, _ := wantArm(less, timers, 11)
	checkNoArm(t, checkArm(t, less, timers, 11, armed), 3, 11)
	later, _ := impl.Advance(full, 12)
	armed, _ = wantArm(later, timers, 13)
	checkNoArm(t, checkArm(t, later, timers, 13, armed), 0, 13)
}

func TestCancel(t *testing.T) {
	a, b, c := impl.Timer{Id: 5, At: 30}, impl.Timer{Id: 7, At: 30}, impl.Timer{Id: 2, At: 40}
	w := wheelOf(10, a, b, c)
	checkCancel(t, w, 5, wheelOf(10, b, c), true)
	checkCancel(t, w, 7, wheelOf(10, a, c), true)
	checkCancel(t, w, 2, wheelOf(10, a, b), true)
	checkCancel(t, wheelOf(10, c), 2, wheelOf(10), true)
	checkCancel(t, wheelOf(0, impl.Timer{Id: 0, At: 1}), 0, impl.Wheel{}, true)
	edges := wheelOf(3, impl.Timer{Id: impl.MaxId, At: 8}, impl.Timer{Id: 0, At: impl.MaxTime})
	checkCancel(t, edges, 0, wheelOf(3, impl.Timer{Id: impl.MaxId, At: 8}), true)
	checkCancel(t, edges, impl.MaxId, wheelOf(3, impl.Timer{Id: 0, At: impl.MaxTime}), true)
	full := wheelOfMany(impl.MaxTimers)
	checkCancel(t, full, impl.MaxTimers-1, wheelOfMany(impl.MaxTimers-1), true)
}

func TestCancelOfNone(t *testing.T) {
	w := wheelOf(10, impl.Timer{Id: 5, At: 30}, impl.Timer{Id: 7, At: 30})
	full := wheelOfMany(impl.MaxTimers)
	for _, id := range append(noIds(), 6, 30, 10, 8, 4, impl.MaxId) {
		checkCancel(t, w, id, w, false)
		checkCancel(t, impl.Wheel{}, id, impl.Wheel{}, false)
		checkCancel(t, wheelOf(impl.MaxTime), id, wheelOf(impl.MaxTime), false)
	}
	checkCancel(t, full, impl.MaxTimers, full, false)
	less := checkCancel(t, w, 5, wheelOf(10, impl.Timer{Id: 7, At: 30}), true)
	checkCancel(t, less, 5, less, false)
}

func TestAdvance(t *testing.T) {
	a, b, c, d := impl.Timer{Id: 9, At: 20}, impl.Timer{Id: 5, At: 30}, impl.Timer{Id: 7, At: 30}, impl.Timer{Id: 2, At: 40}
	w := wheelOf(10, a, b, c, d)
	checkAdvance(t, w, 10, w)
	checkAdvance(t, w, 11, wheelOf(11, a, b, c, d))
	checkAdvance(t, w, 19, wheelOf(19, a, b, c, d))
	checkAdvance(t, w, 20, wheelOf(20, b, c, d), 9)
	checkAdvance(t, w, 29, wheelOf(29, b, c, d), 9)
	checkAdvance(t, w, 30, wheelOf(30, d), 9, 5, 7)
	checkAdvance(t, w, 39, wheelOf(39, d), 9, 5, 7)
	checkAdvance(t, w, 40, wheelOf(40), 9, 5, 7, 2)
	checkAdvance(t, w, 41, wheelOf(41), 9, 5, 7, 2)
	checkAdvance(t, w, impl.MaxTime, wheelOf(impl.MaxTime), 9, 5, 7, 2)
	for _, now := range append(noTimes(), 0, 9) {
		checkAdvance(t, w, now, impl.Wheel{})
	}
}

func TestAdvanceAtBounds(t *testing.T) {
	last := impl.Timer{Id: 4, At: impl.MaxTime}
	w := wheelOf(0, impl.Timer{Id: impl.MaxId, At: 1}, impl.Timer{Id: 0, At: impl.MaxTime}, last)
	checkAdvance(t, w, 0, w)
	checkAdvance(t, w, 1, wheelOf(1, impl.Timer{Id: 0, At: impl.MaxTime}, last), impl.MaxId)
	checkAdvance(t, w, impl.MaxTime-1, wheelOf(impl.MaxTime-1, impl.Timer{Id: 0, At: impl.MaxTime}, last), impl.MaxId)
	checkAdvance(t, w, impl.MaxTime, wheelOf(impl.MaxTime), impl.MaxId, 0, 4)
	checkAdvance(t, impl.Wheel{}, 0, impl.Wheel{})
	checkAdvance(t, impl.Wheel{}, 7, wheelOf(7))
	checkAdvance(t, wheelOf(impl.MaxTime), impl.MaxTime, wheelOf(impl.MaxTime))
	for _, now := range append(noTimes(), 0, impl.MaxTime-1) {
		checkAdvance(t, wheelOf(impl.MaxTime), now, impl.Wheel{})
	}
	for _, now := range noTimes() {
		checkAdvance(t, w, now, impl.Wheel{})
		checkAdvance(t, impl.Wheel{}, now, impl.Wheel{})
	}
}

func TestAdvanceOverMaxTimers(t *testing.T) {
	full := wheelOfMany(impl.MaxTimers)
	for i := range impl.MaxTimers {
		at := full.Timers[i].At
		for _, now := range []int64{at - 1, at, at + 1} {
			want, due := wantAdvance(full, now)
			checkAdvance(t, full, now, want, due...)
		}
	}
	// All of one time: only the Ids tell which is ahead.
	w := wheelOf(4)
	var ids []int64
	for i := range int64(impl.MaxTimers) {
		w, _ = impl.Arm(w, i*77%impl.MaxTimers, 5)
		ids = append(ids, i)
	}
	checkAdvance(t, w, 5, wheelOf(5), ids...)
}

// A run arms, cancels and advances by chance, and keeps of each timer that was armed what became of it.
type run struct {
	t     *testing.T
	wheel impl.Wheel
	plain plainList
	fired []impl.Timer
	alive []impl.Timer
	gone  int
}

func (r *run) drop(id int64) {
	n := len(r.alive)
	r.alive = slices.DeleteFunc(r.alive, func(x impl.Timer) bool { return x.Id == id })
	r.gone += n - len(r.alive)
}

func (r *run) arm(id int64, at int64) {
	r.t.Helper()
	_, found := r.plain.times[id]
	if !found && len(r.plain.times) == impl.MaxTimers {
		checkNoArm(r.t, r.wheel, id, at)
		return
	}
	r.plain.times[id] = at
	r.drop(id)
	r.alive = append(r.alive, impl.Timer{Id: id, At: at})
	r.wheel = checkArm(r.t, r.wheel, id, at, r.plain.wheel())
}

func (r *run) cancel(id int64) {
	r.t.Helper()
	_, found := r.plain.times[id]
	delete(r.plain.times, id)
	r.drop(id)
	r.wheel = checkCancel(r.t, r.wheel, id, r.plain.wheel(), found)
}

func (r *run) advance(now int64) {
	r.t.Helper()
	before := r.wheel.Now
	next, due := impl.Advance(r.wheel, now)
	r.plain.now = now
	for _, id := range due {
		i := slices.IndexFunc(r.alive, func(x impl.Timer) bool { return x.Id == id })
		if i < 0 {
			r.t.Fatalf("Advance(%v, %d): %d fired again, or after it was cancelled", r.wheel, now, id)
		}
		x := r.alive[i]
		if x.At <= before || x.At > now {
			r.t.Fatalf("Advance(%v, %d): %v fired out of its time", r.wheel, now, x)
		}
		want, found := r.plain.takeFirstBy(now)
		if !found || id != want {
			r.t.Fatalf("Advance(%v, %d) = %v: %d fired out of order", r.wheel, now, due, id)
		}
		r.alive = slices.Delete(r.alive, i, i+1)
		r.fired = append(r.fired, x)
	}
	if id, found := r.plain.takeFirstBy(now); found {
		r.t.Fatalf("Advance(%v, %d) = %v: %d did not fire", r.wheel, now, due, id)
	}
	if want := r.plain.wheel(); !isSameWheel(next, want) {
		r.t.Fatalf("Advance(%v, %d) = %v, want %v", r.wheel, now, next, want)
	}
	r.wheel = next
}

// check asks of all that fired: whatever was armed fired, was cancelled, was armed anew or is still there.
func (r *run) check(armed int) {
	r.t.Helper()
	checkWheelOk(r.t, r.wheel, true)
	if len(r.fired)+len(r.alive)+r.gone != armed {
		r.t.Fatal(len(r.fired), len(r.alive), r.gone, armed)
	}
	for i := 1; i < len(r.fired); i++ {
		a, b := r.fired[i-1], r.fired[i]
		if a.At > b.At || a.At == b.At && a.Id >= b.Id {
			r.t.Fatal(a, "fired ahead of", b)
		}
	}
}

func (r *run) by(state *uint64, steps int, ids int64, stride int64, weights [3]int64) {
	r.t.Helper()
	armed := 0
	for range steps {
		id := mixed(state) % ids
		dice := mixed(state) >> 3 % (weights[0] + weights[1] + weights[2])
		now := r.wheel.Now
		switch {
		case dice < weights[0]:
			_, found := r.plain.times[id]
			if found || len(r.plain.times) < impl.MaxTimers {
				armed++
			}
			r.arm(id, now+1+mixed(state)%stride)
		case dice < weights[0]+weights[1]:
			r.cancel(id)
		default:
			r.advance(now + mixed(state)%stride)
		}
		r.check(armed)
	}
	r.advance(impl.MaxTime)
	r.check(armed)
	if len(r.alive) > 0 {
		r.t.Fatal("not all fired:", r.alive)
	}
}

func TestMixedRuns(t *testing.T) {
	state := uint64(5)
	var fired, gone int
	for i := range int64(300) {
		now := mixed(&state) % 1000
		r := run{t: t, wheel: wheelOf(now), plain: plainList{now: now, times: map[int64]int64{}}}
		r.by(&state, 80, 1+i%30, 1+i%13, [3]int64{1 + i%5, 1 + i%3, 1 + i%2})
		fired += len(r.fired)
		gone += r.gone
	}
	if fired < 2000 || gone < 2000 {
		t.Fatal("too few were fired or gone:", fired, gone)
	}
}

func TestMixedRunOfAFullWheel(t *testing.T) {
	state := uint64(6)
	r := run{t: t, wheel: wheelOf(1), plain: plainList{now: 1, times: map[int64]int64{}}}
	for i := range int64(impl.MaxTimers) {
		r.arm(i*3, 100+i%7)
	}
	for range 300 {
		r.arm(mixed(&state)%(4*impl.MaxTimers), 2+mixed(&state)%500)
		checkWheelOk(t, r.wheel, true)
	}
	if len(r.wheel.Timers) != impl.MaxTimers {
		t.Fatal(len(r.wheel.Timers))
	}
	for _, now := range []int64{1, 2, 100, 101, 105, 106, 107, 250, 501, 502} {
		r.advance(now)
	}
	if len(r.wheel.Timers) != 0 {
		t.Fatal(r.wheel)
	}
}

// Every order of arming comes to one wheel.
func TestArmInEveryOrder(t *testing.T) {
	timers := []impl.Timer{{Id: 9, At: 20}, {Id: 0, At: 30}, {Id: 5, At: 30}, {Id: 7, At: 30}, {Id: 2, At: 40}, {Id: 8, At: 41}}
	want := wheelOf(10, timers...)
	orders := 0
	var arm func(w impl.Wheel, left []impl.Timer)
	arm = func(w impl.Wheel, left []impl.Timer) {
		if len(left) == 0 {
			orders++
			if !isSameWheel(w, want) {
				t.Fatal(w)
			}
			return
		}
		for i, x := range left {
			next, ok := impl.Arm(w, x.Id, x.At)
			if !ok {
				t.Fatal(w, x)
			}
			arm(next, slices.Delete(slices.Clone(left), i, i+1))
		}
	}
	arm(wheelOf(10), timers)
	if orders != 720 {
		t.Fatal(orders)
	}
}

// What fires in two steps is what fires in one, and so is what is left.
func TestAdvanceInTwoSteps(t *testing.T) {
	state := uint64(7)
	for range 60 {
		w := wheelOf(5)
		for range 1 + mixed(&state)%25 {
			w, _ = impl.Arm(w, mixed(&state)%40, 6+mixed(&state)%18)
		}
		for last := int64(5); last < 27; last++ {
			one, due := impl.Advance(w, last)
			for mid := int64(5); mid <= last; mid++ {
				half, early := impl.Advance(w, mid)
				two, late := impl.Advance(half, last)
				if !isSameWheel(one, two) || !slices.Equal(due, append(early, late...)) {
					t.Fatal(w, mid, last, due, early, late)
				}
			}
		}
	}
}

// A timer that was cancelled may be armed anew, and then fires; one that fired likewise.
func TestArmAgain(t *testing.T) {
	w := checkArm(t, wheelOf(0), 4, 10, wheelOf(0, impl.Timer{Id: 4, At: 10}))
	w = checkCancel(t, w, 4, wheelOf(0), true)
	w = checkAdvance(t, w, 10, wheelOf(10))
	w = checkArm(t, w, 4, 11, wheelOf(10, impl.Timer{Id: 4, At: 11}))
	w = checkAdvance(t, w, 11, wheelOf(11), 4)
	w = checkAdvance(t, w, 12, wheelOf(12))
	checkCancel(t, w, 4, w, false)
	w = checkArm(t, w, 4, 13, wheelOf(12, impl.Timer{Id: 4, At: 13}))
	// Put off, it does not fire at its first time; brought forward, not at its last one.
	w = checkArm(t, w, 4, 20, wheelOf(12, impl.Timer{Id: 4, At: 20}))
	w = checkAdvance(t, w, 19, wheelOf(19, impl.Timer{Id: 4, At: 20}))
	w = checkArm(t, w, 4, 90, wheelOf(19, impl.Timer{Id: 4, At: 90}))
	w = checkArm(t, w, 4, 21, wheelOf(19, impl.Timer{Id: 4, At: 21}))
	w = checkAdvance(t, w, 21, wheelOf(21), 4)
	checkAdvance(t, w, 100, wheelOf(100))
}

// Every field of a wheel, and every argument, at and around its bounds.
func TestWheelsAtEdges(t *testing.T) {
	times := []int64{math.MinInt64, -1, 0, 1, 2, impl.MaxTime - 1, impl.MaxTime, impl.MaxTime + 1, math.MaxInt64}
	ids := []int64{math.MinInt64, -1, 0, 1, impl.MaxId - 1, impl.MaxId, impl.MaxId + 1, math.MaxInt64}
	right := 0
	for _, now := range times {
		for _, at := range times {
			for _, id := range ids {
				for _, otherAt := range times {
					for _, otherId := range ids {
						checkWheel(t, wheelOf(now), otherId, otherAt)
						w := wheelOf(now, impl.Timer{Id: id, At: at})
						checkWheel(t, w, otherId, otherAt)
						two := wheelOf(now, impl.Timer{Id: id, At: at}, impl.Timer{Id: otherId, At: otherAt})
						checkWheel(t, two, id, impl.MaxTime)
						checkWheel(t, two, 2, at)
						if wantWheelOk(two) {
							right++
						}
					}
				}
			}
		}
	}
	if right < 100 {
		t.Fatal("too few of them are right:", right)
	}
}

// Lists of three small timers, right and wrong ones, all that there are.
func TestSmallWheels(t *testing.T) {
	right := 0
	for i := range 9 * 9 * 9 {
		timers := make([]impl.Timer, 3)
		for j, k := range []int{i % 9, i / 9 % 9, i / 81} {
			timers[j] = impl.Timer{Id: int64(k % 3), At: int64(2 + k/3)}
		}
		for now := int64(0); now < 5; now++ {
			w := wheelOf(now, timers...)
			if wantWheelOk(w) {
				right++
			}
			for id := int64(0); id < 4; id++ {
				for at := int64(0); at < 6; at++ {
					checkWheel(t, w, id, at)
				}
			}
		}
	}
	if right < 50 {
		t.Fatal("too few of them are right:", right)
	}
}

// wheelWithRoom lies in the midst of a longer list whose other timers tell if they are touched.
func wheelWithRoom(w impl.Wheel) (impl.Wheel, []impl.Timer) {
	whole := make([]impl.Timer, len(w.Timers)+9)
	for i := range whole {
		whole[i] = impl.Timer{Id: -7, At: -100 - int64(i)}
	}
	copy(whole[2:], w.Timers)
	return wheelOf(w.Now, whole[2:2+len(w.Timers)]...), whole
}

// checkAnswersMemory writes over the argument, and then over all of the answer.
func checkAnswersMemory(t *testing.T, name string, w impl.Wheel, want impl.Wheel, act func(impl.Wheel) impl.Wheel) {
	t.Helper()
	roomy, whole := wheelWithRoom(w)
	before := slices.Clone(whole)
	got := act(roomy)
	if !slices.Equal(whole, before) {
		t.Fatalf("%s of %v wrote into its argument: %v", name, w, whole)
	}
	clear(whole)
	if !isSameWheel(got, want) {
		t.Fatalf("%s of %v hangs on its argument: %v", name, w, got)
	}
	all := got.Timers[:cap(got.Timers)]
	for i := range all {
		all[i] = impl.Timer{Id: 5, At: 5}
	}
	if slices.ContainsFunc(whole, func(x impl.Timer) bool { return x != impl.Timer{} }) {
		t.Fatalf("%s of %v shares memory with its argument", name, w)
	}
}

func checkTimerMemory(t *testing.T, w impl.Wheel, id int64, at int64) {
	t.Helper()
	checkAnswersMemory(t, "WheelOk", w, impl.Wheel{}, func(w impl.Wheel) impl.Wheel {
		impl.WheelOk(w)
		return impl.Wheel{}
	})
	want, _ := wantArm(w, id, at)
	checkAnswersMemory(t, "Arm", w, want, func(w impl.Wheel) impl.Wheel {
		got, _ := impl.Arm(w, id, at)
		return got
	})
	want, _ = wantCancel(w, id)
	checkAnswersMemory(t, "Cancel", w, want, func(w impl.Wheel) impl.Wheel {
		got, _ := impl.Cancel(w, id)
		return got
	})
	want, _ = wantAdvance(w, at)
	checkAnswersMemory(t, "Advance", w, want, func(w impl.Wheel) impl.Wheel {
		got, _ := impl.Advance(w, at)
		return got
	})
}

func TestTimerMemory(t *testing.T) {
	many := wheelOfMany(6)
	for n := range len(many.Timers) + 1 {
		w := wheelOf(many.Now, many.Timers[:n]...)
		for id := int64(-1); id < 8; id++ {
			for at := int64(9); at < 26; at++ {
				checkTimerMemory(t, w, id, at)
			}
		}
	}
	full := wheelOfMany(impl.MaxTimers)
	for id := range int64(impl.MaxTimers + 1) {
		checkTimerMemory(t, full, id, 12+2*(id*7%impl.MaxTimers))
	}
	for _, w := range wrongWheels() {
		checkTimerMemory(t, w, 5, 50)
	}
}

// Two wheels that were made of one have nothing to do with each other.
func TestWheelsOfOne(t *testing.T) {
	w := wheelOf(0)
	for i := range int64(20) {
		a, _ := impl.Arm(w, 2*i, 100+i)
		wantA := wheelOf(a.Now, slices.Clone(a.Timers)...)
		b, _ := impl.Arm(w, 2*i+1, 100+i)
		wantB := wheelOf(b.Now, slices.Clone(b.Timers)...)
		impl.Cancel(a, 2*i)
		impl.Advance(b, 200)
		impl.Arm(a, 0, 300)
		if !isSameWheel(a, wantA) || !isSameWheel(b, wantB) {
			t.Fatal(a, b)
		}
		w = a
	}
}

func TestLevel(t *testing.T) {
	const ms = 1000000
	// From a now of 0, d is the slot of level 0, where it is below 64.
	checkLevel(t, 0, 0, 0, 0)
	checkLevel(t, 0, ms-1, 0, 0)
	checkLevel(t, 0, ms, 0, 1)
	checkLevel(t, 0, 63*ms, 0, 63)
	checkLevel(t, 0, 64*ms-1, 0, 63)
	checkLevel(t, 0, 64*ms, 1, 1)
	checkLevel(t, 0, 127*ms, 1, 1)
	checkLevel(t, 0, 128*ms, 1, 2)
	checkLevel(t, 0, 4095*ms, 1, 63)
	checkLevel(t, 0, 4096*ms-1, 1, 63)
	checkLevel(t, 0, 4096*ms, 2, 1)
	checkLevel(t, 0, 262143*ms, 2, 63)
	checkLevel(t, 0, 262144*ms-1, 2, 63)
	checkLevel(t, 0, 262144*ms, 3, 1)
	checkLevel(t, 0, 63*262144*ms, 3, 63)
	checkLevel(t, 0, 64*262144*ms, 3, 0)
	// 10^9 milliseconds are 3814 slots of level 3, and 3814 is 59 times 64 and 38.
	checkLevel(t, 0, impl.MaxTime, 3, 38)
	checkLevel(t, 0, impl.MaxTime-1, 3, 38)
}

func TestLevelFromLaterNows(t *testing.T) {
	const ms = 1000000
	// The slot is of the timer's own time, not of how far it is.
	checkLevel(t, 100*ms, 100*ms, 0, 36)
	checkLevel(t, 100*ms, 163*ms, 0, 35)
	checkLevel(t, 100*ms, 164*ms, 1, 2)
	// d is of whole milliseconds: one nanosecond may be one, and nearly two none.
	checkLevel(t, 5*ms-1, 5*ms, 0, 5)
	checkLevel(t, ms-1, 64*ms, 1, 1)
	checkLevel(t, ms, 64*ms, 0, 0)
	checkLevel(t, ms, 65*ms-1, 0, 0)
	checkLevel(t, ms, 65*ms, 1, 1)
	checkLevel(t, 2*ms-1, 65*ms-1, 0, 0)
	checkLevel(t, 2*ms-1, 65*ms, 1, 1)
	checkLevel(t, impl.MaxTime, impl.MaxTime, 0, 0)
	checkLevel(t, impl.MaxTime-1, impl.MaxTime, 0, 0)
	checkLevel(t, impl.MaxTime-1, impl.MaxTime-1, 0, 63)
	checkLevel(t, impl.MaxTime-63*ms, impl.MaxTime, 0, 0)
	checkLevel(t, impl.MaxTime-64*ms, impl.MaxTime, 1, 40)
}

func TestLevelRefuses(t *testing.T) {
	for _, wrong := range noTimes() {
		for _, right := range []int64{0, 1, 1000000, impl.MaxTime} {
			checkLevel(t, wrong, right, -1, -1)
			checkLevel(t, right, wrong, -1, -1)
		}
		checkLevel(t, wrong, wrong, -1, -1)
	}
	// Earlier by one nanosecond, though of the same millisecond.
	for _, at := range []int64{0, 1, 998, 999999, 1000000, 63999999, impl.MaxTime - 1} {
		checkLevel(t, at+1, at, -1, -1)
		checkLevel(t, impl.MaxTime, at, -1, -1)
	}
}

func TestLevelAtEdges(t *testing.T) {
	var times []int64
	for _, ms := range []int64{0, 1, 2, 63, 64, 65, 127, 128, 4032, 4095, 4096, 4097, 258048, 262143, 262144, 262145, 266240, 16777215, 16777216, 999999999, 1000000000} {
		times = append(times, ms*1000000-1, ms*1000000, ms*1000000+1, ms*1000000+999999)
	}
	times = append(times, noTimes()...)
	for _, now := range times {
		for _, at := range times {
			level, slot := wantLevel(now, at)
			checkLevel(t, now, at, level, slot)
		}
		for _, d := range []int64{0, 63, 64, 4095, 4096, 262143, 262144} {
			for _, ns := range []int64{-1, 0, 1, 999999} {
				at := now/1000000*1000000 + d*1000000 + ns
				level, slot := wantLevel(now, at)
				checkLevel(t, now, at, level, slot)
			}
		}
	}
}

func TestLevelMixed(t *testing.T) {
	state := uint64(9)
	seen := map[[2]int64]int{}
	for i := range 200000 {
		// As far as each of the four levels reaches, by turns.
		reach := int64(64*1000000) << (6 * (i % 4))
		now := mixed(&state) % (impl.MaxTime + 1)
		at := min(now+mixed(&state)%reach, impl.MaxTime)
		level, slot := wantLevel(now, at)
		checkLevel(t, now, at, level, slot)
		seen[[2]int64{level, slot}]++
		level, slot = wantLevel(at, now)
		checkLevel(t, at, now, level, slot)
	}
	if len(seen) != 4*64 {
		t.Fatal("too few slots were met:", len(seen))
	}
}
