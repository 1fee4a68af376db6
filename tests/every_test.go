package tests

import (
	"fmt"
	"go/ast"
	"go/parser"
	"go/token"
	"math"
	"path/filepath"
	"reflect"
	"slices"
	"strings"
	"sync"
	"testing"
	"unsafe"

	"loop.example/g00147/impl"
)

// Promise 16, of every function alike: each is handed arguments that are right,
// and then the same with one thing after another changed to what is furthest
// from it.

// A face is a function that the document lists, the plain account of it, which
// takes and answers the same, and arguments with which it has something to do.
type face struct {
	name    string
	act     any
	account any
	samples [][]any
}

func given(args ...any) []any { return args }

func leastByWords(a float64, b float64) float64 {
	if math.IsNaN(b) || a < b || a == b && math.Signbit(a) {
		return a
	}
	return b
}

func mostByWords(a float64, b float64) float64 {
	if math.IsNaN(b) || a > b || a == b && !math.Signbit(a) {
		return a
	}
	return b
}

func rootByWords(n int64) int64 {
	if n < 0 {
		return -1
	}
	root := min(int64(math.Cbrt(float64(n)))+2, greatestRoot)
	for cubeByWords(root).Cmp(sumByWords(n, 0)) > 0 {
		root--
	}
	return root
}

func firstByWords(f impl.Filter) int64 {
	for _, s := range f.Items {
		return s.Value
	}
	return 0
}

func sinceByWords(f impl.Filter, at int64) int64 {
	for _, s := range f.Items {
		if isOf(s.At, 1e15) && isOf(at, 1e15) && at >= s.At {
			return at - s.At
		}
		break
	}
	return -1
}

func newProbeByWords(at int64) (impl.Probe, bool) {
	if !isOf(at, 1e15) {
		return impl.Probe{}, false
	}
	return impl.Probe{State: 1, Since: at, TripAt: at}, true
}

func observeByWords(p impl.Probe, now int64, rate int64, trip int64, flight int64) impl.Probe {
	return wantObserve(p, view{now, rate, trip, flight})
}

func (o outcome) coded() (impl.Engine, int64) { return o.engine, o.code }

func facesOfNumbers() []face {
	return []face{
		{"Add", impl.Add, wantAdd, [][]any{given(int64(3), int64(-4))}},
		{"MulDiv", impl.MulDiv, wantMulDiv, [][]any{given(int64(30), int64(40), int64(7))}},
		{"CubeRoot", impl.CubeRoot, rootByWords, [][]any{given(int64(1000))}},
		{"Bytes", impl.Bytes, wantBytes, [][]any{given(int64(1000), int64(1500000000))}},
		{"TimeFor", impl.TimeFor, wantTimeFor, [][]any{given(int64(3), int64(1000))}},
		{"ToRate", impl.ToRate, wantToRate, [][]any{given(1.5)}},
		{"Smooth", impl.Smooth, wantSmooth, [][]any{given(10.0, 20.0, 0.25)}},
		{"Least", impl.Least, leastByWords, [][]any{given(1.5, 2.5), given(2.5, 1.5)}},
		{"Most", impl.Most, mostByWords, [][]any{given(1.5, 2.5), given(2.5, 1.5)}},
		{"Ratio", impl.Ratio, wantRatio, [][]any{given(1.5, 2.5)}},
	}
}

func facesOfFilters() []face {
	most := filterOf(impl.Sample{At: 10, Value: 90}, impl.Sample{At: 20, Value: 50}, impl.Sample{At: 30, Value: 7})
	least := filterOf(impl.Sample{At: 10, Value: 5}, impl.Sample{At: 20, Value: 50}, impl.Sample{At: 30, Value: 70})
	full := falling(100, 10, 1000, 2)
	return []face{
		{"FilterOk", impl.FilterOk, wantFilterOk, [][]any{given(most, true), given(least, false)}},
		{"Push", impl.Push, wantPush, [][]any{
			given(most, impl.Sample{At: 35, Value: 6}, int64(20), true), given(most, impl.Sample{At: 30, Value: 6}, int64(20), true),
			given(most, impl.Sample{At: 40, Value: 60}, int64(100), true), given(least, impl.Sample{At: 40, Value: 80}, int64(100), false),
			given(full, impl.Sample{At: 900, Value: 1}, int64(1000), true), given(impl.Filter{}, impl.Sample{At: 4, Value: 9}, int64(5), true),
		}},
		{"Best", impl.Best, firstByWords, [][]any{given(most)}},
		{"Since", impl.Since, sinceByWords, [][]any{given(most, int64(40))}},
	}
}

func facesOfBuckets() []face {
	b := bucketOf(1000, 3000, 2000*billion, 50)
	return []face{
		{"BucketOk", impl.BucketOk, wantBucketOk, [][]any{given(b)}},
		{"Full", impl.Full, wantFull, [][]any{given(int64(1000), int64(3000), int64(50))}},
		{"Fill", impl.Fill, wantFill, [][]any{given(b, int64(500000050))}},
		{"Take", impl.Take, wantTake, [][]any{given(b, int64(500000050), int64(1500))}},
		{"When", impl.When, wantWhen, [][]any{given(b, int64(1500)), given(bucketOf(1000, 3000, 9, 50), int64(1500))}},
		{"Reset", impl.Reset, wantReset, [][]any{given(b, int64(2000), int64(1600), int64(500000050))}},
	}
}

func facesOfTimers() []face {
	w := wheelOf(5, impl.Timer{Id: 7, At: 20}, impl.Timer{Id: 3, At: 30}, impl.Timer{Id: 9, At: 30})
	return []face{
		{"WheelOk", impl.WheelOk, wantWheelOk, [][]any{given(w)}},
		{"Arm", impl.Arm, wantArm, [][]any{given(w, int64(4), int64(25)), given(w, int64(3), int64(10)), given(wheelOfMany(199), int64(500), int64(60))}},
		{"Cancel", impl.Cancel, wantCancel, [][]any{given(w, int64(3)), given(w, int64(4))}},
		{"Advance", impl.Advance, wantAdvance, [][]any{given(w, int64(25)), given(w, int64(5)), given(w, int64(40))}},
		{"Level", impl.Level, wantLevel, [][]any{given(int64(5000000), int64(90000000))}},
	}
}

func facesOfTrees() []face {
	tree := branchTree()
	l := withLevels(fullLendAt(tree, 100), wholeBytes(5000, 3000, 900, 2000, 1400), wholeBytes(6000, 4000, 2500, 1800, 1500))
	return []face{
		{"TreeOk", impl.TreeOk, wantTreeOk, [][]any{given(tree), given(withBurst(tree, 1499))}},
		{"Path", impl.Path, wantPath, [][]any{given(tree, int64(3)), given(tree, int64(0))}},
		{"Leaves", impl.Leaves, wantLeaves, [][]any{given(tree)}},
		{"Under", impl.Under, wantUnder, [][]any{given(tree, int64(1)), given(tree, int64(4))}},
		{"Spare", impl.Spare, wantSpare, [][]any{given(tree, int64(1))}},
		{"NewLend", impl.NewLend, wantNewLend, [][]any{given(tree, int64(100))}},
		{"LendOk", impl.LendOk, wantLendOk, [][]any{given(l)}},
		{"Ask", impl.Ask, wantAsk, [][]any{given(l, int64(2), int64(200), int64(900)), given(l, int64(2), int64(200), int64(1000))}},
		{"Spend", impl.Spend, wantSpend, [][]any{
			given(l, int64(2), int64(200), int64(900)), given(l, int64(2), int64(200), int64(1000)), given(l, int64(4), int64(200), int64(1500)),
		}},
		{"Retree", impl.Retree, wantRetree, [][]any{given(l, withBurst(tree, 1500), int64(200)), given(l, tree, int64(100))}},
		{"Bound", impl.Bound, wantBound, [][]any{given(l, int64(1), int64(1500000000))}},
	}
}

func facesOfTurns() []face {
	turns := turnsAt(1, flowOf(1500, 7, 800, 900), flowOf(2000, 900, 1000), flowOf(3000, 0), flowOf(1600, 20, 1500))
	return []face{
		{"TurnsOk", impl.TurnsOk, wantTurnsOk, [][]any{given(turns)}},
		{"Queue", impl.Queue, wantQueue, [][]any{given(turns, int64(0), int64(5)), given(turns, int64(2), int64(5))}},
		{"Serve", impl.Serve, wantServe, [][]any{given(turns), given(freshTurns(flowOf(1500, 0), flowOf(1500, 0)))}},
		{"ServeAll", impl.ServeAll, wantServeAll, [][]any{given(turns, int64(2)), given(turns, int64(3000)), given(turns, int64(0))}},
		{"Waiting", impl.Waiting, wantWaiting, [][]any{given(turns)}},
	}
}

func facesOfWindows() []face {
	trip, reno, cubic := tripOf(110000000, 57500000, 3), ccIn(impl.CcReno, 15000, 4000), ccIn(impl.CcCubic, 15000, 4000)
	return []face{
		{"TripOk", impl.TripOk, wantTripOk, [][]any{given(trip), given(impl.Trip{})}},
		{"Measure", impl.Measure, wantMeasure, [][]any{given(trip, int64(90000000)), given(impl.Trip{}, int64(90000000))}},
		{"Wait", impl.Wait, wantWait, [][]any{given(trip), given(impl.Trip{})}},
		{"Expire", impl.Expire, wantExpire, [][]any{given(trip)}},
		{"CcOk", impl.CcOk, wantCcOk, [][]any{given(reno)}},
		{"NewCc", impl.NewCc, wantNewCc, [][]any{given(int64(impl.CcReno))}},
		{"Sent", impl.Sent, wantSent, [][]any{given(reno, int64(1500))}},
		{"RenoAck", impl.RenoAck, wantRenoAck, [][]any{given(reno, int64(1500)), given(reno, int64(90000))}},
		{"RenoLoss", impl.RenoLoss, wantRenoLoss, [][]any{given(reno)}},
		{"RenoTimeout", impl.RenoTimeout, wantRenoTimeout, [][]any{given(reno)}},
		{"CubicTime", impl.CubicTime, wantCubicTime, [][]any{given(int64(15000), int64(10500))}},
		{"CubicAt", impl.CubicAt, wantCubicAt, [][]any{given(int64(15000), int64(10500), int64(1000))}},
		{"CubicAck", impl.CubicAck, wantCubicAck, [][]any{given(cubic, int64(1500), int64(3000000000))}},
		{"CubicLoss", impl.CubicLoss, wantCubicLoss, [][]any{given(cubic)}},
	}
}

func facesOfProbes() []face {
	var right, seen [][]any
	for state := int64(impl.PbStart); state <= impl.PbTrip; state++ {
		right = append(right, given(probeOf(state)))
		seen = append(seen, given(probeOf(state), int64(5300000000), int64(2000000), int64(30000000), int64(50000)))
	}
	return []face{
		{"ProbeOk", impl.ProbeOk, wantProbeOk, right},
		{"NewProbe", impl.NewProbe, newProbeByWords, [][]any{given(int64(9))}},
		{"Gain", impl.Gain, wantGain, right},
		{"Pace", impl.Pace, wantPace, right},
		{"Cap", impl.Cap, wantCap, right},
		{"Observe", impl.Observe, observeByWords, seen},
	}
}

func facesOfPlaces() []face {
	p := placeOf(9000, 4000, 2, 4, 9)
	return []face{
		{"PlaceOk", impl.PlaceOk, wantPlaceOk, [][]any{given(p)}},
		{"Join", impl.Join, wantJoin, [][]any{given(p, int64(5)), given(placeOf(9000, 0), int64(5)), given(placeOfMany(49), int64(999999))}},
		{"Quit", impl.Quit, wantQuit, [][]any{given(p, int64(4), int64(300)), given(p, int64(9), int64(5000))}},
		{"Room", impl.Room, wantRoom, [][]any{given(p, int64(1500))}},
		{"Claim", impl.Claim, wantClaim, [][]any{given(p, int64(1500))}},
		{"Free", impl.Free, wantFree, [][]any{given(p, int64(1500), true), given(p, int64(1500), false)}},
		{"Share", impl.Share, wantShare, [][]any{given(p)}},
	}
}

func facesOfEngines() []face {
	e := busyEngine()
	return []face{
		{"EngineOk", impl.EngineOk, wantEngineOk, [][]any{given(e)}},
		{"NewEngine", impl.NewEngine, wantNewEngine, [][]any{given(branchTree(), int64(3))}},
		{"Open", impl.Open, func(e impl.Engine, id int64, leaf int64, place int64, kind int64) (impl.Engine, int64) {
			return wantOpen(e, id, leaf, place, kind).coded()
		}, [][]any{given(e, int64(25), int64(2), int64(1), int64(impl.CcReno))}},
		{"Submit", impl.Submit, func(e impl.Engine, id int64, n int64) (impl.Engine, int64) {
			return wantSubmit(e, id, n).coded()
		}, [][]any{given(e, int64(30), int64(700))}},
		{"Grant", impl.Grant, func(e impl.Engine) (impl.Engine, int64, int64) {
			got := wantGrant(e)
			return got.engine, got.code, got.size
		}, [][]any{given(e)}},
		{"Acked", impl.Acked, func(e impl.Engine, id int64, n int64) (impl.Engine, int64) {
			return wantAcked(e, id, n).coded()
		}, [][]any{given(e, int64(10), int64(700))}},
		{"Lost", impl.Lost, func(e impl.Engine, id int64, n int64) (impl.Engine, int64) {
			return wantLost(e, id, n).coded()
		}, [][]any{given(e, int64(20), int64(700))}},
		{"Close", impl.Close, func(e impl.Engine, id int64) (impl.Engine, int64) {
			return wantClose(e, id).coded()
		}, [][]any{given(e, int64(30))}},
		{"Switch", impl.Switch, func(e impl.Engine, id int64, kind int64) (impl.Engine, int64) {
			return wantSwitch(e, id, kind).coded()
		}, [][]any{given(e, int64(10), int64(impl.CcCubic))}},
		{"Forward", impl.Forward, func(e impl.Engine, ns int64) (impl.Engine, int64) {
			return wantForward(e, ns).coded()
		}, [][]any{given(e, int64(5000000))}},
		{"Bench", impl.Bench, wantBench, [][]any{
			given(""), given("\n"), given("grant"), given("x"), given("place 0\nplace 0 60000 0\n60000 0\nok\nerror 0\n"),
			given("open 1 0 0 1\nsend 1 1500\n\ngrant\nclass 0 5 5 1500\nwindow 1"), given(strings.Repeat("x", 20001)), given(strings.Repeat("\n", 201)),
			given("open 9223372036854775807 -9223372036854775808 0 0"), given("wait 999999999999999999\nwait -999999999999999999"),
		}},
	}
}

func faces() []face {
	return slices.Concat(
		facesOfNumbers(), facesOfFilters(), facesOfBuckets(), facesOfTimers(), facesOfTrees(), facesOfTurns(),
		facesOfWindows(), facesOfProbes(), facesOfPlaces(), facesOfEngines(),
	)
}

// exportedFunctions are all that the package gives out, by its own text.
func exportedFunctions(t *testing.T) []string {
	t.Helper()
	files, err := filepath.Glob("../impl/*.go")
	if err != nil || len(files) != 15 {
		t.Fatal(files, err)
	}
	var names []string
	for _, file := range files {
		parsed, err := parser.ParseFile(token.NewFileSet(), file, nil, 0)
		if err != nil {
			t.Fatal(err)
		}
		for _, d := range parsed.Decls {
			if f, ok := d.(*ast.FuncDecl); ok && f.Name.IsExported() {
				names = append(names, f.Name.Name)
			}
		}
	}
	return names
}

func isAllZero(answer []reflect.Value) bool {
	return !slices.ContainsFunc(answer, func(v reflect.Value) bool { return !v.IsZero() })
}

// No function is left out here, and none has only what it refuses.
func TestEveryFunctionIsHere(t *testing.T) {
	var names []string
	for _, x := range faces() {
		names = append(names, x.name)
		if reflect.TypeOf(x.act) != reflect.TypeOf(x.account) {
			t.Fatalf("%s: %v, not %v", x.name, reflect.TypeOf(x.account), reflect.TypeOf(x.act))
		}
		if !slices.ContainsFunc(x.samples, func(sample []any) bool { return !isAllZero(checkFace(t, x, argsOf(sample))) }) {
			t.Fatalf("%s has nothing to do", x.name)
		}
	}
	want := exportedFunctions(t)
	slices.Sort(want)
	slices.Sort(names)
	if !slices.Equal(names, want) {
		t.Fatalf("%v, not %v", names, want)
	}
}

// argsOf are what a sample has, each in memory of its own with marked room
// behind its lists, and so that it can be written into.
func argsOf(sample []any) []reflect.Value {
	var args []reflect.Value
	for _, x := range sample {
		v := reflect.New(reflect.TypeOf(x)).Elem()
		v.Set(reflect.ValueOf(x))
		giveRoom(v)
		args = append(args, v)
	}
	return args
}

// wholeCopies are of the arguments, and of the room behind their lists.
func wholeCopies(args []reflect.Value) []reflect.Value {
	var copies []reflect.Value
	for _, x := range args {
		v := reflect.New(x.Type()).Elem()
		v.Set(x)
		takeRoom(v)
		copies = append(copies, v)
	}
	return copies
}

// isAlike holds NaN for NaN and nothing for nothing, and noughts apart by their signs.
func isAlike(a reflect.Value, b reflect.Value) bool {
	switch a.Kind() {
	case reflect.Struct:
		for i := range a.NumField() {
			if !isAlike(a.Field(i), b.Field(i)) {
				return false
			}
		}
		return true
	case reflect.Slice:
		if a.Len() != b.Len() {
			return false
		}
		for i := range a.Len() {
			if !isAlike(a.Index(i), b.Index(i)) {
				return false
			}
		}
		return true
	case reflect.Float64:
		return same(a.Float(), b.Float())
	}
	return a.Interface() == b.Interface()
}

func areAlike(a []reflect.Value, b []reflect.Value) bool { return slices.EqualFunc(a, b, isAlike) }

// spansOfAll are of all lists and texts.
func spansOfAll(name string, list []reflect.Value) []span {
	var spans []span
	for i, v := range list {
		path := fmt.Sprint(name, " ", i)
		if v.Kind() == reflect.String && v.Len() > 0 {
			from := uintptr(unsafe.Pointer(unsafe.StringData(v.String())))
			spans = append(spans, span{from, from + uintptr(v.Len()), path})
		}
		spans = append(spans, spansIn(v, path)...)
	}
	return spans
}

func shown(args []reflect.Value) string {
	text := ""
	for _, v := range args {
		text += fmt.Sprintf(" %+v", v)
	}
	return text
}

// called fails the test where the function does.
func called(t *testing.T, name string, function any, args []reflect.Value) []reflect.Value {
	t.Helper()
	defer func() {
		if fault := recover(); fault != nil {
			t.Fatalf("%s of%.500s: %v", name, shown(args), fault)
		}
	}()
	return reflect.ValueOf(function).Call(args)
}

// checkFace wants what the account tells, in memory of its own, and nothing to
// be written into the arguments or behind them.
func checkFace(t *testing.T, x face, args []reflect.Value) []reflect.Value {
	t.Helper()
	whole := wholeCopies(args)
	want := called(t, "the account of "+x.name, x.account, args)
	first := called(t, x.name, x.act, args)
	second := called(t, x.name, x.act, args)
	if !areAlike(first, want) || !areAlike(second, want) {
		t.Fatalf("%s of%.900s =%.900s, then%.900s, not%.900s", x.name, shown(args), shown(first), shown(second), shown(want))
	}
	checkApart(t, x.name, slices.Concat(
		spansOfAll("argument", args), spansOfAll("result", first), spansOfAll("second result", second),
	))
	if !areAlike(wholeCopies(args), whole) {
		t.Fatalf("%s of%.900s was written into", x.name, shown(args))
	}
	return first
}

// furthest are where numbers end, and where they change their sign.
func furthest() []int64 {
	return []int64{math.MinInt64, math.MinInt64 + 1, -1, 0, 1, math.MaxInt64 - 1, math.MaxInt64}
}

// partsIn are all parts of a value that are of some kind, at any depth.
func partsIn(v reflect.Value, kind reflect.Kind) []reflect.Value {
	var list []reflect.Value
	if v.Kind() == kind {
		list = append(list, v)
	}
	switch v.Kind() {
	case reflect.Struct:
		for i := range v.NumField() {
			list = append(list, partsIn(v.Field(i), kind)...)
		}
	case reflect.Slice:
		for i := range v.Len() {
			list = append(list, partsIn(v.Index(i), kind)...)
		}
	}
	return list
}

func partsOf(args []reflect.Value, kind reflect.Kind) []reflect.Value {
	var list []reflect.Value
	for _, v := range args {
		list = append(list, partsIn(v, kind)...)
	}
	return list
}

// eachSample calls with new arguments for each sample of each function.
func eachSample(t *testing.T, check func(t *testing.T, x face, args []reflect.Value)) {
	for _, x := range faces() {
		for _, sample := range x.samples {
			args := argsOf(sample)
			checkFace(t, x, args)
			check(t, x, args)
			if !areAlike(args, argsOf(sample)) {
				t.Fatalf("%s: the test has left%.900s", x.name, shown(args))
			}
		}
	}
}

func TestEveryNumber(t *testing.T) {
	eachSample(t, func(t *testing.T, x face, args []reflect.Value) {
		for _, number := range partsOf(args, reflect.Int64) {
			was := number.Int()
			limits := []int64{impl.MaxSegment, impl.MaxWindow, impl.MaxRate, impl.MaxTime, impl.MaxTime + 1}
			for _, n := range append(slices.Concat(furthest(), limits), was-1, was+1, math.MaxInt64-was, math.MinInt64+was) {
				number.SetInt(n)
				checkFace(t, x, args)
			}
			number.SetInt(was)
		}
	})
}

// All numbers of an argument at once, and of all arguments.
func TestEveryNumberAtTheEnds(t *testing.T) {
	for _, x := range faces() {
		for _, sample := range x.samples {
			for _, n := range furthest() {
				all := argsOf(sample)
				for i := range all {
					args := argsOf(sample)
					for _, number := range partsIn(args[i], reflect.Int64) {
						number.SetInt(n)
					}
					for _, number := range partsIn(all[i], reflect.Int64) {
						number.SetInt(n)
					}
					checkFace(t, x, args)
				}
				checkFace(t, x, all)
			}
		}
	}
}

// withAll calls with every choice of the numbers for the places.
func withAll(places []reflect.Value, numbers []int64, check func()) {
	if len(places) == 0 {
		check()
		return
	}
	was := places[0].Int()
	for _, n := range numbers {
		places[0].SetInt(n)
		withAll(places[1:], numbers, check)
	}
	places[0].SetInt(was)
}

// Arguments that are numbers, each with each.
func TestEveryNumberWithEachOther(t *testing.T) {
	eachSample(t, func(t *testing.T, x face, args []reflect.Value) {
		var plain []reflect.Value
		for _, v := range args {
			if v.Kind() == reflect.Int64 {
				plain = append(plain, v)
			}
		}
		numbers := furthest()
		if len(plain) > 3 {
			numbers = []int64{math.MinInt64, 0, 1, math.MaxInt64}
		}
		withAll(plain, numbers, func() { checkFace(t, x, args) })
	})
}

func TestEveryFloat(t *testing.T) {
	met := 0
	eachSample(t, func(t *testing.T, x face, args []reflect.Value) {
		floats := partsOf(args, reflect.Float64)
		for i, number := range floats {
			for _, other := range floats[i:] {
				was, otherWas := number.Float(), other.Float()
				for _, a := range floatEdges() {
					for _, b := range floatEdges() {
						number.SetFloat(a)
						other.SetFloat(b)
						checkFace(t, x, args)
						met++
					}
				}
				other.SetFloat(otherWas)
				number.SetFloat(was)
			}
		}
	})
	if met < 10000 {
		t.Fatal(met)
	}
}

func TestEveryFlag(t *testing.T) {
	eachSample(t, func(t *testing.T, x face, args []reflect.Value) {
		for _, flag := range partsOf(args, reflect.Bool) {
			flag.SetBool(!flag.Bool())
			checkFace(t, x, args)
			flag.SetBool(!flag.Bool())
		}
	})
}

// otherLists are shorter and longer ones, the latter far beyond each limit.
func otherLists(list reflect.Value) []reflect.Value {
	n := list.Len()
	others := []reflect.Value{reflect.MakeSlice(list.Type(), 1, 1), reflect.MakeSlice(list.Type(), n+1, n+4)}
	if n == 0 {
		return others
	}
	long := list.Slice(0, n)
	for long.Len() < 300 {
		long = reflect.AppendSlice(long.Slice3(0, long.Len(), long.Len()), list)
	}
	return append(others, list.Slice(0, n-1), list.Slice(1, n), long)
}

// A list that is nil, one that is empty and one with nothing but room are the
// same value.
func TestEveryList(t *testing.T) {
	eachSample(t, func(t *testing.T, x face, args []reflect.Value) {
		for _, list := range partsOf(args, reflect.Slice) {
			was := reflect.ValueOf(list.Interface())
			list.SetZero()
			ofNil := checkFace(t, x, args)
			list.Set(reflect.MakeSlice(list.Type(), 0, 0))
			ofEmpty := checkFace(t, x, args)
			list.Set(reflect.MakeSlice(list.Type(), 0, 5))
			ofRoom := checkFace(t, x, args)
			if !areAlike(ofNil, ofEmpty) || !areAlike(ofNil, ofRoom) {
				t.Fatalf("%s: nothing is not nothing:%.900s,%.900s,%.900s", x.name, shown(ofNil), shown(ofEmpty), shown(ofRoom))
			}
			for _, other := range otherLists(was) {
				list.Set(other)
				giveRoom(list)
				checkFace(t, x, args)
			}
			list.Set(was)
		}
	})
}

// All lists at once are nothing, and all arguments are zero values.
func TestEveryZeroValue(t *testing.T) {
	for _, x := range faces() {
		for _, sample := range x.samples {
			args := argsOf(sample)
			for i, v := range args {
				v.SetZero()
				checkFace(t, x, args)
				single := argsOf(sample)
				single[i].SetZero()
				checkFace(t, x, single)
			}
			bare := argsOf(sample)
			for _, v := range bare {
				for list := partsIn(v, reflect.Slice); len(list) > 0; list = list[1:] {
					list[0].Set(reflect.MakeSlice(list[0].Type(), 0, 3))
				}
			}
			checkFace(t, x, bare)
		}
	}
}

// A caller may hand in one list for two, or one that another answer has.
func TestEveryListHandedInTwice(t *testing.T) {
	eachSample(t, func(t *testing.T, x face, args []reflect.Value) {
		lists := partsOf(args, reflect.Slice)
		for i, list := range lists {
			for _, other := range lists[:i] {
				if list.Type() != other.Type() {
					continue
				}
				was := reflect.ValueOf(list.Interface())
				list.Set(other)
				whole := wholeCopies(args)
				want := called(t, x.name, x.account, args)
				got := called(t, x.name, x.act, args)
				if !areAlike(got, want) || !areAlike(wholeCopies(args), whole) {
					t.Fatalf("%s of%.900s =%.900s, not%.900s", x.name, shown(args), shown(got), shown(want))
				}
				spans := spansOfAll("result", got)
				checkApart(t, x.name, spans)
				for _, s := range spansOfAll("argument", args) {
					checkApart(t, x.name, append(spans, s))
				}
				list.Set(was)
			}
		}
	})
}

// What one call answers hangs on no other one, however many there are at once
// that are handed the same memory.
func TestEveryFunctionAtOnce(t *testing.T) {
	eachSample(t, func(t *testing.T, x face, args []reflect.Value) {
		want := called(t, x.name, x.account, args)
		var workers sync.WaitGroup
		answers := make([][]reflect.Value, 6)
		for k := range answers {
			workers.Go(func() {
				for range 3 {
					answers[k] = reflect.ValueOf(x.act).Call(args)
				}
			})
		}
		workers.Wait()
		for _, got := range answers {
			if !areAlike(got, want) {
				t.Fatalf("%s of%.900s =%.900s, not%.900s", x.name, shown(args), shown(got), shown(want))
			}
		}
	})
}
