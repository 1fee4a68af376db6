package tests

import (
	"reflect"
	"slices"
	"testing"

	"loop.example/g00147/impl"
)

// A span is the memory of a list, with all the room behind it.
type span struct {
	from, to uintptr
	path     string
}

// spansIn are those of all lists of a value, at any depth.
func spansIn(v reflect.Value, path string) []span {
	var list []span
	switch v.Kind() {
	case reflect.Struct:
		for i := range v.NumField() {
			list = append(list, spansIn(v.Field(i), path+"."+v.Type().Field(i).Name)...)
		}
	case reflect.Slice:
		// Memory that nobody can come to is shared with nobody.
		if v.Cap() > 0 {
			list = append(list, span{v.Pointer(), v.Pointer() + uintptr(v.Cap())*v.Type().Elem().Size(), path})
		}
		for i := range v.Len() {
			list = append(list, spansIn(v.Index(i), path+"[]")...)
		}
	}
	return list
}

func spansOf(e *impl.Engine) []span { return spansIn(reflect.ValueOf(e).Elem(), "") }

func checkApart(t *testing.T, name string, spans []span) {
	t.Helper()
	for i, a := range spans {
		for _, b := range spans[:i] {
			if a.from < b.to && b.from < a.to {
				t.Fatalf("%s: %s and %s share memory", name, b.path, a.path)
			}
		}
	}
}

// fillNumbers writes a mark into each number of a value, at any depth.
func fillNumbers(v reflect.Value, mark int64) {
	for _, number := range numbersIn(v) {
		*number = mark
	}
}

// giveRoom puts each list of a value, at any depth, into new memory with marked
// room behind it.
func giveRoom(v reflect.Value) {
	switch v.Kind() {
	case reflect.Struct:
		for i := range v.NumField() {
			giveRoom(v.Field(i))
		}
	case reflect.Slice:
		list := reflect.MakeSlice(v.Type(), v.Len()+3, v.Len()+3)
		reflect.Copy(list, v)
		for i := v.Len(); i < list.Len(); i++ {
			fillNumbers(list.Index(i), 71)
		}
		v.Set(list.Slice3(0, v.Len(), list.Len()))
		for i := range v.Len() {
			giveRoom(v.Index(i))
		}
	}
}

// takeRoom makes a copy of each list of a value, at any depth, and of the room
// behind it.
func takeRoom(v reflect.Value) {
	switch v.Kind() {
	case reflect.Struct:
		for i := range v.NumField() {
			takeRoom(v.Field(i))
		}
	case reflect.Slice:
		list := reflect.MakeSlice(v.Type(), v.Cap(), v.Cap())
		reflect.Copy(list, v.Slice(0, v.Cap()))
		for i := range list.Len() {
			takeRoom(list.Index(i))
		}
		v.Set(list)
	}
}

func engineWithRoom(e impl.Engine) impl.Engine {
	e = copiedEngine(e)
	giveRoom(reflect.ValueOf(&e).Elem())
	return e
}

func engineAndRoom(e impl.Engine) impl.Engine {
	takeRoom(reflect.ValueOf(&e).Elem())
	return e
}

// spoilEngine writes into all lists of an answer, and into the room behind them.
func spoilEngine(e impl.Engine) {
	for _, p := range e.Places {
		spoil(p.Members, -9)
	}
	for _, c := range e.Conns {
		spoil(c.Sizes, -9)
	}
	spoil(e.Lend.Tree, impl.Class{Parent: -9, Rate: -9, Ceil: -9, Burst: -9})
	spoil(e.Lend.Own, bucketOf(-9, -9, -9, -9))
	spoil(e.Lend.Top, bucketOf(-9, -9, -9, -9))
	spoil(e.Places, placeOf(-9, -9))
	spoil(e.Conns, connOf(-9, -9, -9, impl.Cc{}))
}

// checkEngineMemory wants an answer to lie in memory of its own, and the
// argument to stay as it is, with the room behind all of its lists.
func checkEngineMemory(t *testing.T, given impl.Engine, x call) {
	t.Helper()
	e := engineWithRoom(given)
	whole := engineAndRoom(e)
	first, second := x.act(e), x.act(e)
	spans := append(spansOf(&first.engine), spansOf(&second.engine)...)
	checkApart(t, x.name, append(spans, spansOf(&e)...))
	if !reflect.DeepEqual(engineAndRoom(e), whole) {
		t.Fatalf("%s(%d): %+v was written into: %+v", x.name, x.args, whole, engineAndRoom(e))
	}
	want := outcome{copiedEngine(first.engine), first.code, first.size}
	if !isSameOutcome(second, want) {
		t.Fatalf("%s(%d): %+v, then %+v", x.name, x.args, want, second)
	}
	spoilEngine(first.engine)
	if !isSameOutcome(second, want) || !reflect.DeepEqual(engineAndRoom(e), whole) {
		t.Fatalf("%s(%d): %+v changes with another answer", x.name, x.args, want)
	}
	spoilEngine(e)
	if !isSameOutcome(second, want) {
		t.Fatalf("%s(%d): %+v changes with the argument", x.name, x.args, want)
	}
}

// asking answers nothing that has memory.
func asking() call {
	return call{name: "EngineOk", act: func(e impl.Engine) outcome {
		impl.EngineOk(e)
		return outcome{}
	}}
}

func TestEngineMemory(t *testing.T) {
	state := uint64(146)
	list := []impl.Engine{
		{},
		busyEngine(),
		engineOf(soleTree(), 0, []int64{3000}),
		fullEngine(1, 1),
		fullEngine(2, 1),
		fullEngine(39, 3),
		fullEngine(40, 10),
		fullEngine(41, 10),
		changedEngine(busyEngine(), func(e *impl.Engine) { e.Next = -1 }),
		changedEngine(busyEngine(), func(e *impl.Engine) { e.Conns[3].Sizes = manySizes(100, 3) }),
	}
	for range 40 {
		list = append(list, anyEngine(&state))
	}
	for _, e := range list {
		calls := []call{asking(), granting(), forwarding(0), forwarding(5000000), forwarding(-1)}
		ids := []int64{-1, 0, 5, 10, 25, 1000000}
		for _, c := range e.Conns[:min(len(e.Conns), 6)] {
			ids = append(ids, c.Id)
		}
		for _, id := range ids {
			calls = append(calls, opening(id, 2, 0, impl.CcReno), opening(id, 0, 0, impl.CcCubic), opening(id, 0, 0, 0))
			calls = append(calls, submitting(id, 9), submitting(id, 0), closing(id), switching(id, 2), switching(id, 3))
			calls = append(calls, acking(id, 1), acking(id, 0), losing(id, 1), losing(id, -1))
		}
		for _, x := range calls {
			checkEngineMemory(t, e, x)
		}
	}
}

// A new Engine has memory of its own, and does not change with the tree that it
// was made of.
func TestEngineMemoryOfTree(t *testing.T) {
	for _, places := range []int64{0, 1, 2, 10, 11} {
		tree, whole := treeWithRoom(branchTree())
		before := slices.Clone(whole)
		first, _ := impl.NewEngine(tree, places)
		second, _ := impl.NewEngine(tree, places)
		given := impl.Engine{Lend: impl.Lend{Tree: tree}}
		checkApart(t, "NewEngine", slices.Concat(spansOf(&first), spansOf(&second), spansOf(&given)))
		if !slices.Equal(whole, before) {
			t.Fatal(whole)
		}
		want, _ := wantNewEngine(branchTree(), places)
		spoilEngine(first)
		spoil(whole, impl.Class{})
		if !isSameEngine(second, want) {
			t.Fatalf("%+v, not %+v", second, want)
		}
	}
}

// Lists of an argument may be one: what is done to one is not done to the other.
func TestEngineOfOneList(t *testing.T) {
	room, _ := sizesWithRoom([]int64{5, 6, 7})
	e := busyEngine()
	e.Conns[0].Sizes, e.Conns[2].Sizes, e.Conns[3].Sizes = room, room[:2], room[1:]
	e.Lend = fullLendAt(branchTree(), 1000)
	for _, x := range append(callsOn(10), callsOn(30)...) {
		got := checkCall(t, e, x)
		checkApart(t, x.name, spansOf(&got.engine))
	}
	next := checkDone(t, e, submitting(30, 9))
	if !slices.Equal(next.Conns[2].Sizes, []int64{5, 6, 9}) || !slices.Equal(next.Conns[0].Sizes, []int64{5, 6, 7}) {
		t.Fatal(next)
	}
	// Both places have one list of none, and one Lend has one list twice.
	sole := engineOf([]impl.Class{lone(1000, 1000, 3000)}, 0, []int64{60000, 60000})
	sole.Lend.Top = sole.Lend.Own
	members := make([]int64, 0, 4)
	sole.Places[0].Members, sole.Places[1].Members = members, members
	next = checkDone(t, sole, opening(3, 0, 0, impl.CcReno))
	next = checkDone(t, next, opening(4, 0, 1, impl.CcReno))
	if !isSamePlace(next.Places[0], placeOf(60000, 0, 3)) || !isSamePlace(next.Places[1], placeOf(60000, 0, 4)) {
		t.Fatal(next)
	}
	next.Lend.Top = next.Lend.Own
	next = checkDone(t, next, submitting(4, 1000))
	next.Lend.Top = next.Lend.Own
	next = checkGrants(t, next, 4, 1000)
	checkLevels(t, next.Lend, wholeBytes(2000), wholeBytes(2000))
	checkApart(t, "Grant", spansOf(&next))
}

// Engines that were answered stay as they are when others are made of them.
func TestEnginesOfOne(t *testing.T) {
	e := busyEngine()
	a := checkDone(t, e, submitting(10, 1))
	b := checkDone(t, a, submitting(10, 2))
	c := checkDone(t, a, submitting(10, 3))
	d := checkDone(t, a, opening(15, 2, 0, impl.CcReno))
	f := checkDone(t, a, opening(16, 2, 0, impl.CcReno))
	g := checkDone(t, d, closing(10))
	h := checkGrants(t, b, 40, 1500)
	k := checkGrants(t, h, 10, 1000)
	for _, x := range []struct {
		engine impl.Engine
		ids    []int64
		sizes  []int64
	}{
		{e, []int64{10, 20, 30, 40}, []int64{1000, 200}},
		{a, []int64{10, 20, 30, 40}, []int64{1000, 200, 1}},
		{b, []int64{10, 20, 30, 40}, []int64{1000, 200, 1, 2}},
		{c, []int64{10, 20, 30, 40}, []int64{1000, 200, 1, 3}},
		{d, []int64{10, 15, 20, 30, 40}, []int64{1000, 200, 1}},
		{f, []int64{10, 16, 20, 30, 40}, []int64{1000, 200, 1}},
		{g, []int64{15, 20, 30, 40}, nil},
		{h, []int64{10, 20, 30, 40}, []int64{1000, 200, 1, 2}},
		{k, []int64{10, 20, 30, 40}, []int64{200, 1, 2}},
	} {
		if !slices.Equal(idsIn(x.engine), x.ids) || !slices.Equal(x.engine.Conns[0].Sizes, x.sizes) {
			t.Fatalf("%+v, not %v and %v", x.engine, x.ids, x.sizes)
		}
	}
}
