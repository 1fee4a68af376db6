package tests

import (
	"math"
	"math/big"
	"slices"
	"testing"

	"loop.example/g00147/impl"
)

func isSameLend(a impl.Lend, b impl.Lend) bool {
	return slices.Equal(a.Tree, b.Tree) && slices.Equal(a.Own, b.Own) && slices.Equal(a.Top, b.Top)
}

func isZeroLend(l impl.Lend) bool { return isSameLend(l, impl.Lend{}) }

func copiedLend(l impl.Lend) impl.Lend {
	return impl.Lend{Tree: slices.Clone(l.Tree), Own: slices.Clone(l.Own), Top: slices.Clone(l.Top)}
}

// changedLend leaves the one that it is given as it is.
func changedLend(l impl.Lend, change func(*impl.Lend)) impl.Lend {
	l = copiedLend(l)
	change(&l)
	return l
}

// withLevels sets the first levels of both kinds, in billionths of a byte.
func withLevels(l impl.Lend, own []int64, top []int64) impl.Lend {
	return changedLend(l, func(l *impl.Lend) {
		for i, level := range own {
			l.Own[i].Level = level
		}
		for i, level := range top {
			l.Top[i].Level = level
		}
	})
}

func wholeBytes(list ...int64) []int64 {
	levels := slices.Clone(list)
	for i := range levels {
		levels[i] *= billion
	}
	return levels
}

func bucketLevels(list []impl.Bucket) []int64 {
	var levels []int64
	for _, b := range list {
		levels = append(levels, b.Level)
	}
	return levels
}

// withRates makes what a class is assured of, and its Ceil, times as great.
func withRates(tree []impl.Class, times int64) []impl.Class {
	tree = slices.Clone(tree)
	for i := range tree {
		tree[i].Rate *= times
		tree[i].Ceil *= times
	}
	return tree
}

// withLeastCeil gives all classes one Ceil, just what the first is assured of.
func withLeastCeil(tree []impl.Class) []impl.Class {
	tree = slices.Clone(tree)
	for i := range tree {
		tree[i].Ceil = tree[0].Rate
	}
	return tree
}

// withSpare has much to lend above, and leaves that are assured of little.
func withSpare(tree []impl.Class) []impl.Class {
	tree = slices.Clone(tree)
	children := map[int64]int64{}
	for _, c := range tree {
		children[c.Parent]++
	}
	tree[0].Rate = tree[0].Ceil
	for i := 1; i < len(tree); i++ {
		c := &tree[i]
		c.Ceil = tree[0].Ceil
		c.Rate = tree[c.Parent].Rate / children[c.Parent]
		if children[int64(i)] == 0 {
			c.Rate /= 1000
		}
	}
	return tree
}

func withBurst(tree []impl.Class, burst int64) []impl.Class {
	tree = slices.Clone(tree)
	for i := range tree {
		tree[i].Burst = burst
	}
	return tree
}

// emptyLend has a bucket for each class, whether the list is a tree or not.
func emptyLend(tree []impl.Class, at int64) impl.Lend {
	l := impl.Lend{Tree: slices.Clone(tree)}
	for _, c := range tree {
		l.Own = append(l.Own, bucketOf(c.Rate, c.Burst, 0, at))
		l.Top = append(l.Top, bucketOf(c.Ceil, c.Burst, 0, at))
	}
	return l
}

func wantNewLend(tree []impl.Class, at int64) (impl.Lend, bool) {
	if wantTreeOk(tree) != 0 || !isOf(at, 1e15) {
		return impl.Lend{}, false
	}
	l := emptyLend(tree, at)
	for i, c := range tree {
		l.Own[i].Level = c.Burst * billion
		l.Top[i].Level = c.Burst * billion
	}
	return l, true
}

// wantLendOk holds a Lend against the one of its tree and time that has its levels.
func wantLendOk(l impl.Lend) bool {
	if len(l.Own) != len(l.Tree) || len(l.Top) != len(l.Tree) || wantTreeOk(l.Tree) != 0 {
		return false
	}
	twin := emptyLend(l.Tree, l.Top[len(l.Top)-1].At)
	if !isSameLend(withLevels(twin, bucketLevels(l.Own), bucketLevels(l.Top)), l) {
		return false
	}
	for i := range l.Tree {
		if !wantBucketOk(l.Own[i]) || !wantBucketOk(l.Top[i]) {
			return false
		}
	}
	return true
}

func wantFilled(l impl.Lend, now int64) impl.Lend {
	return changedLend(l, func(l *impl.Lend) {
		for i := range l.Tree {
			l.Own[i] = wantFill(l.Own[i], now)
			l.Top[i] = wantFill(l.Top[i], now)
		}
	})
}

func mayMove(l impl.Lend, now int64) bool {
	return wantLendOk(l) && now >= l.Top[0].At && now <= 1e15
}

// wantAsk comes down from the first class: who has so much and is nearer to the leaf takes over.
func wantAsk(l impl.Lend, leaf int64, now int64, n int64) int64 {
	if !mayMove(l, now) || !slices.Contains(wantLeaves(l.Tree), leaf) || n < 1 || n > 1500 {
		return -2
	}
	l = wantFilled(l, now)
	lender, stopped := int64(-1), false
	for _, i := range slices.Backward(wantPath(l.Tree, leaf)) {
		stopped = stopped || l.Top[i].Level < n*billion
		if l.Own[i].Level >= n*billion {
			lender = i
		}
	}
	if stopped {
		return -1
	}
	return lender
}

// wantSpend looks at every class, and asks of each whether it is one that pays.
func wantSpend(l impl.Lend, leaf int64, now int64, n int64) (impl.Lend, bool) {
	lender := wantAsk(l, leaf, now, n)
	if lender == -2 {
		return impl.Lend{}, false
	}
	l = wantFilled(l, now)
	if lender == -1 {
		return l, false
	}
	for i := range l.Tree {
		below := wantUnder(l.Tree, int64(i))
		if slices.Contains(below, leaf) {
			l.Top[i].Level -= n * billion
		}
		if slices.Contains(below, lender) {
			l.Own[i].Level = max(l.Own[i].Level-n*billion, 0)
		}
	}
	return l, true
}

func wantRetree(l impl.Lend, tree []impl.Class, now int64) (impl.Lend, bool) {
	if !mayMove(l, now) || wantTreeOk(tree) != 0 || len(tree) != len(l.Tree) {
		return impl.Lend{}, false
	}
	next := emptyLend(tree, now)
	for i, c := range tree {
		next.Own[i] = wantReset(l.Own[i], c.Rate, c.Burst, now)
		next.Top[i] = wantReset(l.Top[i], c.Ceil, c.Burst, now)
	}
	return next, true
}

func wantBound(l impl.Lend, i int64, ns int64) int64 {
	if !wantLendOk(l) || i < 0 || i >= int64(len(l.Tree)) || !isOf(ns, 1e15) {
		return -1
	}
	bound := new(big.Int).Mul(big.NewInt(l.Tree[i].Ceil), big.NewInt(ns))
	bound.Add(bound, big.NewInt(1e9-1))
	bound.Quo(bound, big.NewInt(1e9))
	return bound.Add(bound, big.NewInt(l.Tree[i].Burst)).Int64()
}

func checkLendOk(t *testing.T, l impl.Lend, want bool) {
	t.Helper()
	if ok := impl.LendOk(l); ok != want {
		t.Fatalf("LendOk(%+v) = %v", l, ok)
	}
}

func checkNewLend(t *testing.T, tree []impl.Class, at int64) impl.Lend {
	t.Helper()
	want, wantOk := wantNewLend(tree, at)
	l, ok := impl.NewLend(tree, at)
	if ok != wantOk || !isSameLend(l, want) {
		t.Fatalf("NewLend(%v, %d) = %+v, %v, want %+v, %v", tree, at, l, ok, want, wantOk)
	}
	checkLendOk(t, l, wantOk)
	return l
}

func checkAsk(t *testing.T, l impl.Lend, leaf int64, now int64, n int64, want int64) {
	t.Helper()
	if lender := impl.Ask(l, leaf, now, n); lender != want {
		t.Fatalf("Ask(%+v, %d, %d, %d) = %d, want %d", l, leaf, now, n, lender, want)
	}
}

func checkSpend(t *testing.T, l impl.Lend, leaf int64, now int64, n int64, want impl.Lend, wantOk bool) impl.Lend {
	t.Helper()
	next, ok := impl.Spend(l, leaf, now, n)
	if ok != wantOk || !isSameLend(next, want) {
		t.Fatalf("Spend(%+v, %d, %d, %d) = %+v, %v, want %+v, %v", l, leaf, now, n, next, ok, want, wantOk)
	}
	return next
}

// checkLending holds Ask and Spend against their words.
func checkLending(t *testing.T, l impl.Lend, leaf int64, now int64, n int64) (impl.Lend, int64) {
	t.Helper()
	lender := wantAsk(l, leaf, now, n)
	checkAsk(t, l, leaf, now, n, lender)
	want, wantOk := wantSpend(l, leaf, now, n)
	next := checkSpend(t, l, leaf, now, n, want, wantOk)
	checkLendOk(t, next, lender != -2)
	return next, lender
}

func checkRetree(t *testing.T, l impl.Lend, tree []impl.Class, now int64) impl.Lend {
	t.Helper()
	want, wantOk := wantRetree(l, tree, now)
	next, ok := impl.Retree(l, tree, now)
	if ok != wantOk || !isSameLend(next, want) {
		t.Fatalf("Retree(%+v, %v, %d) = %+v, %v, want %+v, %v", l, tree, now, next, ok, want, wantOk)
	}
	checkLendOk(t, next, wantOk)
	return next
}

func checkBound(t *testing.T, l impl.Lend, i int64, ns int64, want int64) {
	t.Helper()
	if bound := impl.Bound(l, i, ns); bound != want {
		t.Fatalf("Bound(%+v, %d, %d) = %d, want %d", l, i, ns, bound, want)
	}
}

// checkNoSpend holds of what is not as the chapter wants it.
func checkNoSpend(t *testing.T, l impl.Lend, leaf int64, now int64, n int64) {
	t.Helper()
	checkAsk(t, l, leaf, now, n, -2)
	checkSpend(t, l, leaf, now, n, impl.Lend{}, false)
}

func checkNoRetree(t *testing.T, l impl.Lend, tree []impl.Class, now int64) {
	t.Helper()
	if next, ok := impl.Retree(l, tree, now); ok || !isZeroLend(next) {
		t.Fatalf("Retree(%+v, %v, %d) = %+v, %v", l, tree, now, next, ok)
	}
}

// checkNoLend asks of a Lend that is none, with all else as a right one of five classes would want it.
func checkNoLend(t *testing.T, l impl.Lend) {
	t.Helper()
	checkLendOk(t, l, false)
	for _, now := range []int64{0, 99, 100, 101, impl.MaxTime} {
		for leaf := range int64(6) {
			checkNoSpend(t, l, leaf, now, 1)
		}
		checkNoRetree(t, l, branchTree(), now)
		checkNoRetree(t, l, l.Tree, now)
	}
	for i := range int64(6) {
		checkBound(t, l, i, 0, -1)
	}
}

// branchTree has two leaves below class 1, and 4 at the side of it.
func branchTree() []impl.Class {
	return []impl.Class{
		{Parent: -1, Rate: 4000, Ceil: 9000, Burst: 6000},
		{Parent: 0, Rate: 2000, Ceil: 7000, Burst: 4000},
		{Parent: 1, Rate: 1000, Ceil: 5000, Burst: 3000},
		{Parent: 1, Rate: 500, Ceil: 6000, Burst: 2000},
		{Parent: 0, Rate: 1200, Ceil: 8000, Burst: 1500},
	}
}

func branchLend(t *testing.T) impl.Lend {
	t.Helper()
	return checkNewLend(t, branchTree(), 100)
}

func TestNewLendByHand(t *testing.T) {
	l := branchLend(t)
	full := wholeBytes(6000, 4000, 3000, 2000, 1500)
	if !slices.Equal(bucketLevels(l.Own), full) || !slices.Equal(bucketLevels(l.Top), full) {
		t.Fatal(l)
	}
	if l.Own[3] != bucketOf(500, 2000, 2000*billion, 100) || l.Top[3] != bucketOf(6000, 2000, 2000*billion, 100) {
		t.Fatal(l)
	}
}

func TestNewLendOfShapes(t *testing.T) {
	for _, tree := range shapes() {
		for _, at := range append(noTimes(), 0, 1, 12345, impl.MaxTime-1, impl.MaxTime) {
			checkNewLend(t, tree, at)
		}
	}
}

func TestNewLendOfNoTree(t *testing.T) {
	star := starOf(6)
	lists := [][]impl.Class{nil, {}, starOf(31), make([]impl.Class, 3), {lone(2, 1, 1500)}, {lone(1, 1, 1499)}}
	for _, a := range faults() {
		for i := range star {
			lists = append(lists, changed(star, i, a.do))
		}
	}
	lists = append(lists, changed(star, 0, func(c *impl.Class) { c.Rate = star[1].Rate }))
	for _, list := range lists {
		for _, at := range []int64{0, 5, impl.MaxTime, impl.MaxTime + 1} {
			if l, ok := impl.NewLend(list, at); ok || !isZeroLend(l) {
				t.Fatalf("NewLend(%v, %d) = %+v, %v", list, at, l, ok)
			}
		}
		// Buckets that fit such a list make no Lend of it.
		checkNoLend(t, emptyLend(list, 100))
	}
}

func TestLendOkAtLevels(t *testing.T) {
	l := branchLend(t)
	for i, c := range l.Tree {
		for _, level := range []int64{0, 1, billion, c.Burst*billion - 1, c.Burst * billion} {
			checkLendOk(t, changedLend(l, func(l *impl.Lend) { l.Own[i].Level = level }), true)
			checkLendOk(t, changedLend(l, func(l *impl.Lend) { l.Top[i].Level = level }), true)
		}
	}
	for _, at := range []int64{0, 1, impl.MaxTime} {
		checkLendOk(t, emptyLend(l.Tree, at), true)
	}
}

func wrongCounts() []func(*impl.Lend) {
	return []func(*impl.Lend){
		func(l *impl.Lend) { l.Tree = nil },
		func(l *impl.Lend) { l.Tree = l.Tree[:4] },
		func(l *impl.Lend) { l.Own = nil },
		func(l *impl.Lend) { l.Top = nil },
		func(l *impl.Lend) { l.Own, l.Top = nil, nil },
		func(l *impl.Lend) { l.Own = l.Own[:4] },
		func(l *impl.Lend) { l.Top = l.Top[:4] },
		func(l *impl.Lend) { l.Own = l.Own[1:] },
		func(l *impl.Lend) { l.Own, l.Top = l.Own[:4], l.Top[:4] },
		func(l *impl.Lend) { l.Own = append(l.Own, l.Own[4]) },
		func(l *impl.Lend) { l.Top = append(l.Top, l.Top[4]) },
		func(l *impl.Lend) { l.Own, l.Top = append(l.Own, l.Own[4]), append(l.Top, l.Top[4]) },
		func(l *impl.Lend) { l.Own, l.Top = append(l.Own, l.Own[4]), l.Top[:4] },
		func(l *impl.Lend) { l.Own, l.Top = l.Top, l.Own },
		func(l *impl.Lend) { l.Own = slices.Clone(l.Top) },
		func(l *impl.Lend) { l.Top = slices.Clone(l.Own) },
		func(l *impl.Lend) { *l = impl.Lend{} },
	}
}

func TestLendOfOtherCounts(t *testing.T) {
	for _, change := range wrongCounts() {
		checkNoLend(t, changedLend(branchLend(t), change))
	}
	one := checkNewLend(t, []impl.Class{lone(1, 2, 1500)}, 100)
	checkNoLend(t, changedLend(one, func(l *impl.Lend) { l.Own = nil }))
	checkNoLend(t, changedLend(one, func(l *impl.Lend) { l.Top = nil }))
	checkNoLend(t, changedLend(one, func(l *impl.Lend) { l.Tree = nil }))
}

// wrongTills spoil a bucket at 100 that is full.
func wrongTills() []func(*impl.Bucket) {
	return []func(*impl.Bucket){
		func(b *impl.Bucket) { b.Rate++ },
		func(b *impl.Bucket) { b.Rate-- },
		func(b *impl.Bucket) { b.Rate = -1 },
		func(b *impl.Bucket) { b.Burst++ },
		func(b *impl.Bucket) { b.Burst--; b.Level -= billion },
		func(b *impl.Bucket) { b.Burst = math.MaxInt64 },
		func(b *impl.Bucket) { b.Level++ },
		func(b *impl.Bucket) { b.Level = -1 },
		func(b *impl.Bucket) { b.Level = math.MinInt64 },
		func(b *impl.Bucket) { b.Level = math.MaxInt64 },
		func(b *impl.Bucket) { b.At++ },
		func(b *impl.Bucket) { b.At-- },
		func(b *impl.Bucket) { b.At = -1 },
		func(b *impl.Bucket) { b.At = impl.MaxTime + 1 },
		func(b *impl.Bucket) { *b = impl.Bucket{} },
	}
}

func TestLendOfWrongBuckets(t *testing.T) {
	l := branchLend(t)
	for _, spoil := range wrongTills() {
		for i := range l.Tree {
			checkNoLend(t, changedLend(l, func(l *impl.Lend) { spoil(&l.Own[i]) }))
			checkNoLend(t, changedLend(l, func(l *impl.Lend) { spoil(&l.Top[i]) }))
			checkNoLend(t, changedLend(l, func(l *impl.Lend) { spoil(&l.Own[i]); spoil(&l.Top[i]) }))
		}
	}
}

func TestLendAtNoTime(t *testing.T) {
	for _, at := range noTimes() {
		checkNoLend(t, emptyLend(branchTree(), at))
	}
	// All of one kind at a time, all of the other at another one.
	l := branchLend(t)
	later, _ := wantNewLend(branchTree(), 101)
	checkNoLend(t, changedLend(l, func(l *impl.Lend) { l.Own = later.Own }))
	checkNoLend(t, changedLend(l, func(l *impl.Lend) { l.Top = later.Top }))
}

// A class whose terms are changed wants other buckets than it has.
func TestLendOfAnotherTree(t *testing.T) {
	l := branchLend(t)
	for i := range l.Tree {
		for _, change := range []func(*impl.Class){
			func(c *impl.Class) { c.Rate-- },
			func(c *impl.Class) { c.Ceil-- },
			func(c *impl.Class) { c.Burst++ },
			func(c *impl.Class) { c.Burst = impl.MaxWindow },
		} {
			wrong := changedLend(l, func(l *impl.Lend) { change(&l.Tree[i]) })
			checkNoLend(t, wrong)
		}
	}
	// The Parent is of no weight for the buckets.
	checkLendOk(t, changedLend(l, func(l *impl.Lend) { l.Tree[3].Parent = 0 }), true)
}

func TestWhoLends(t *testing.T) {
	l := branchLend(t)
	for _, leaf := range []int64{2, 3, 4} {
		for _, n := range []int64{1, 1499, 1500} {
			checkAsk(t, l, leaf, 100, n, leaf)
		}
	}
	// Of the leaf, of the one above and of the first: just n bytes and one billionth less.
	const n = 1000 * billion
	full := bucketLevels(l.Top)
	for _, c := range []struct {
		own  []int64
		want int64
	}{
		{[]int64{n, n, n}, 2},
		{[]int64{0, 0, n}, 2},
		{[]int64{n, n, n - 1}, 1},
		{[]int64{0, n, n - 1}, 1},
		{[]int64{n, n - 1, n - 1}, 0},
		{[]int64{n - 1, n - 1, n - 1}, -1},
		{[]int64{0, 0, 0}, -1},
		{[]int64{n, n - 1, n}, 2},
		{[]int64{n, 0, 0}, 0},
		{[]int64{6 * n, 0, n - 1}, 0},
	} {
		checkAsk(t, withLevels(l, c.own, full), 2, 100, 1000, c.want)
		checkLending(t, withLevels(l, c.own, full), 2, 100, 1000)
	}
}

// It is the path that counts: what another branch has is of no use.
func TestOthersDoNotLend(t *testing.T) {
	l := withLevels(branchLend(t), []int64{0, 0, 0}, nil)
	checkAsk(t, l, 2, 100, 1, -1)
	checkAsk(t, l, 3, 100, 1, 3)
	checkAsk(t, l, 4, 100, 1, 4)
	l = withLevels(l, []int64{0, 0, 0, 0, 0}, nil)
	for _, leaf := range []int64{2, 3, 4} {
		checkAsk(t, l, leaf, 100, 1, -1)
	}
	l = withLevels(l, []int64{0, billion}, nil)
	checkAsk(t, l, 2, 100, 1, 1)
	checkAsk(t, l, 3, 100, 1, 1)
	checkAsk(t, l, 4, 100, 1, -1)
}

func TestTopsOnThePath(t *testing.T) {
	l := branchLend(t)
	for _, n := range []int64{1, 2, 999, 1500} {
		for i := range l.Tree {
			just := changedLend(l, func(l *impl.Lend) { l.Top[i].Level = n * billion })
			less := changedLend(l, func(l *impl.Lend) { l.Top[i].Level = n*billion - 1 })
			for _, leaf := range []int64{2, 3, 4} {
				checkAsk(t, just, leaf, 100, n, leaf)
				want := leaf
				if slices.Contains(wantPath(l.Tree, leaf), int64(i)) {
					want = -1
				}
				checkAsk(t, less, leaf, 100, n, want)
				checkLending(t, just, leaf, 100, n)
				checkLending(t, less, leaf, 100, n)
			}
		}
	}
}

// A Top that lacks stops whoever would lend, above it and below it.
func TestTopStopsEveryLender(t *testing.T) {
	const n = 700 * billion
	for lender := range 3 {
		own := []int64{0, 0, 0}
		own[lender] = n
		for stop := range 3 {
			l := withLevels(branchLend(t), own, nil)
			checkAsk(t, l, 2, 100, 700, int64(lender))
			l.Top[stop].Level = n
			checkAsk(t, l, 2, 100, 700, int64(lender))
			l.Top[stop].Level = n - 1
			checkAsk(t, l, 2, 100, 700, -1)
			checkLending(t, l, 2, 100, 700)
		}
	}
}

func checkLevels(t *testing.T, l impl.Lend, own []int64, top []int64) {
	t.Helper()
	if !slices.Equal(bucketLevels(l.Own), own) || !slices.Equal(bucketLevels(l.Top), top) {
		t.Fatalf("Own %v, Top %v, want %v, %v", bucketLevels(l.Own), bucketLevels(l.Top), own, top)
	}
}

func TestSpendOfTheLeaf(t *testing.T) {
	l, ok := impl.Spend(branchLend(t), 2, 100, 1000)
	if !ok {
		t.Fatal(l)
	}
	left := wholeBytes(5000, 3000, 2000, 2000, 1500)
	checkLevels(t, l, left, left)
	l, ok = impl.Spend(l, 4, 100, 1500)
	if !ok {
		t.Fatal(l)
	}
	left = wholeBytes(3500, 3000, 2000, 2000, 0)
	checkLevels(t, l, left, left)
}

func TestSpendOfOneAbove(t *testing.T) {
	l := withLevels(branchLend(t), wholeBytes(1200, 1500, 999, 2000), wholeBytes(2000, 1000, 1001))
	next, ok := impl.Spend(l, 2, 100, 1000)
	if !ok {
		t.Fatal(next)
	}
	// Below the lender nothing is taken of Own; of Top all on the path pay.
	checkLevels(t, next, wholeBytes(200, 500, 999, 2000, 1500), wholeBytes(1000, 0, 1, 2000, 1500))
	l = withLevels(l, wholeBytes(1000, 999, 999), nil)
	next, ok = impl.Spend(l, 2, 100, 1000)
	if !ok {
		t.Fatal(next)
	}
	checkLevels(t, next, wholeBytes(0, 999, 999, 2000, 1500), wholeBytes(1000, 0, 1, 2000, 1500))
}

func TestSpendDownToEmpty(t *testing.T) {
	l := branchLend(t)
	top := wholeBytes(5000, 3000, 2000, 2000, 1500)
	for _, above := range []int64{0, 1, billion, 999 * billion, 1000*billion - 1, 1000 * billion, 1000*billion + 1} {
		left := max(above-1000*billion, 0)
		next, ok := impl.Spend(withLevels(l, []int64{above}, nil), 2, 100, 1000)
		if !ok {
			t.Fatal(above)
		}
		checkLevels(t, next, append([]int64{left}, wholeBytes(3000, 2000, 2000, 1500)...), top)
		next, ok = impl.Spend(withLevels(l, []int64{above, above}, nil), 2, 100, 1000)
		if !ok {
			t.Fatal(above)
		}
		checkLevels(t, next, append([]int64{left, left}, wholeBytes(2000, 2000, 1500)...), top)
	}
}

func TestSpendFillsFirst(t *testing.T) {
	l := emptyLend(branchTree(), 100)
	next, ok := impl.Spend(l, 2, 100+billion, 1000)
	if !ok {
		t.Fatal(next)
	}
	checkLevels(t, next, wholeBytes(3000, 1000, 0, 500, 1200), wholeBytes(5000, 3000, 2000, 2000, 1500))
	// A nanosecond sooner the leaf lacks, and the one above it lends.
	next, ok = impl.Spend(l, 2, 100+billion-1, 1000)
	if !ok {
		t.Fatal(next)
	}
	own := []int64{3000*billion - 4000, 1000*billion - 2000, 1000*billion - 1000, 500*billion - 500, 1200*billion - 1200}
	checkLevels(t, next, own, wholeBytes(5000, 3000, 2000, 2000, 1500))
	for _, b := range append(next.Own, next.Top...) {
		if b.At != 100+billion-1 {
			t.Fatal(next)
		}
	}
}

func TestRefusedSpendFillsAlone(t *testing.T) {
	l := emptyLend(branchTree(), 100)
	for _, later := range []int64{0, 1, 1000, 1000000} {
		want := changedLend(l, func(l *impl.Lend) {
			for i, c := range l.Tree {
				l.Own[i].Level, l.Own[i].At = c.Rate*later, 100+later
				l.Top[i].Level, l.Top[i].At = c.Ceil*later, 100+later
			}
		})
		for _, leaf := range []int64{2, 3, 4} {
			checkSpend(t, l, leaf, 100+later, 1500, want, false)
		}
	}
	// A Top lacks; all else has enough, and keeps it.
	l = withLevels(branchLend(t), nil, []int64{1499 * billion})
	checkSpend(t, l, 2, 100, 1500, l, false)
	checkSpend(t, l, 4, 100, 1500, l, false)
	// Nobody has so much of Own; the Tops are full, and stay so.
	l = withLevels(branchLend(t), wholeBytes(1499, 1499, 1499), nil)
	checkSpend(t, l, 2, 100, 1500, l, false)
}

func noLeaves() []int64 {
	return []int64{0, 1, 5, 6, 30, -1, -2, math.MinInt64, math.MaxInt64}
}

func TestNoLeaf(t *testing.T) {
	l := branchLend(t)
	for _, leaf := range noLeaves() {
		for _, now := range []int64{100, 200, impl.MaxTime} {
			checkNoSpend(t, l, leaf, now, 1)
		}
	}
	one := checkNewLend(t, []impl.Class{lone(10, 20, 1500)}, 100)
	checkAsk(t, one, 0, 100, 1500, 0)
	for _, leaf := range []int64{-1, 1, 2, math.MinInt64, math.MaxInt64} {
		checkNoSpend(t, one, leaf, 100, 1)
	}
	for _, tree := range shapes() {
		l := checkNewLend(t, tree, 0)
		for leaf := int64(-2); leaf < int64(len(tree))+2; leaf++ {
			_, lender := checkLending(t, l, leaf, 0, 1500)
			isLeaf := slices.Contains(wantLeaves(tree), leaf)
			if isLeaf && lender != leaf || !isLeaf && lender != -2 {
				t.Fatal(tree, leaf, lender)
			}
		}
	}
}

func TestSpendAtTimes(t *testing.T) {
	l := branchLend(t)
	for _, now := range []int64{100, 101, 1 << 32, impl.MaxTime - 1, impl.MaxTime} {
		checkAsk(t, l, 2, now, 1500, 2)
		checkLending(t, l, 2, now, 1500)
	}
	for _, now := range append(noTimes(), 0, 1, 98, 99) {
		checkNoSpend(t, l, 2, now, 1500)
	}
	first := checkNewLend(t, branchTree(), 0)
	checkAsk(t, first, 2, 0, 1500, 2)
	checkLending(t, first, 2, 0, 1500)
	checkNoSpend(t, first, 2, -1, 1500)
	last := checkNewLend(t, branchTree(), impl.MaxTime)
	checkAsk(t, last, 2, impl.MaxTime, 1500, 2)
	checkLending(t, last, 2, impl.MaxTime, 1500)
	checkNoSpend(t, last, 2, impl.MaxTime-1, 1500)
	checkNoSpend(t, last, 2, impl.MaxTime+1, 1500)
}

func TestSpendOfSizes(t *testing.T) {
	for _, l := range []impl.Lend{branchLend(t), emptyLend(branchTree(), 100)} {
		for _, n := range noSegments() {
			for _, now := range []int64{100, 101, 100 + billion} {
				checkNoSpend(t, l, 2, now, n)
			}
		}
		for _, n := range []int64{1, 2, 1499, 1500} {
			for _, now := range []int64{100, 101, 100 + billion, impl.MaxTime} {
				checkLending(t, l, 2, now, n)
			}
		}
	}
	checkAsk(t, branchLend(t), 2, 100, impl.MaxSegment, 2)
	checkAsk(t, branchLend(t), 2, 100, impl.MaxSegment+1, -2)
}

// The greatest rates and bursts there are, through all the time there is.
func TestGreatestLend(t *testing.T) {
	for _, tree := range [][]impl.Class{chainOf(30), chainOf(1)} {
		for i := range tree {
			tree[i].Rate, tree[i].Ceil, tree[i].Burst = impl.MaxRate, impl.MaxRate, impl.MaxWindow
		}
		leaf := int64(len(tree)) - 1
		for _, l := range []impl.Lend{emptyLend(tree, 0), checkNewLend(t, tree, 0)} {
			for _, now := range []int64{0, 1, 2, 1 << 32, impl.MaxTime} {
				checkLending(t, l, leaf, now, impl.MaxSegment)
				checkRetree(t, l, tree, now)
			}
			checkBound(t, l, leaf, impl.MaxTime, 1000000001000000000)
		}
	}
	// Nothing ever comes where nothing is assured.
	none := emptyLend(withRates(chainOf(30), 0), 0)
	checkAsk(t, none, 29, impl.MaxTime, 1, -1)
	checkLending(t, none, 29, impl.MaxTime, 1)
}

func TestRetreeByHand(t *testing.T) {
	l := emptyLend(branchTree(), 100)
	// More at once does not bring more by itself: what came by now came at the old rate.
	up := withBurst(withRates(branchTree(), 10), 9000)
	next := checkRetree(t, l, up, 100+billion)
	checkLevels(t, next, wholeBytes(4000, 2000, 1000, 500, 1200), wholeBytes(6000, 4000, 3000, 2000, 1500))
	if next.Own[2] != bucketOf(10000, 9000, 1000*billion, 100+billion) {
		t.Fatal(next)
	}
	if next.Top[2] != bucketOf(50000, 9000, 3000*billion, 100+billion) {
		t.Fatal(next)
	}
	// What a lesser burst does not hold goes; a nanosecond still brought what the old rate does.
	down := withBurst(withRates(branchTree(), 0), 1500)
	next = checkRetree(t, next, down, 101+billion)
	own := []int64{1500 * billion, 1500 * billion, 1000*billion + 10000, 500*billion + 5000, 1200*billion + 12000}
	checkLevels(t, next, own, wholeBytes(1500, 1500, 1500, 1500, 1500))
}

func TestRetreeToOthers(t *testing.T) {
	l := withLevels(branchLend(t), wholeBytes(1, 2000, 0, 1999), wholeBytes(0, 3999, 17))
	for _, tree := range [][]impl.Class{branchTree(), chainOf(5), starOf(5), combOf(5), forkOf(5), withRates(forkOf(5), 1000000)} {
		for _, now := range []int64{100, 101, 100 + billion, impl.MaxTime} {
			for _, burst := range []int64{1500, 1501, 2000, 6000, impl.MaxWindow} {
				next := checkRetree(t, l, withBurst(tree, burst), now)
				if !slices.Equal(next.Tree, withBurst(tree, burst)) {
					t.Fatal(next)
				}
				for _, leaf := range wantLeaves(tree) {
					checkLending(t, next, leaf, now+min(1, impl.MaxTime-now), 700)
				}
			}
		}
	}
}

func TestRetreeRefuses(t *testing.T) {
	l := branchLend(t)
	for _, tree := range [][]impl.Class{branchTree(), chainOf(5), starOf(5)} {
		for _, now := range append(noTimes(), 0, 1, 99) {
			checkNoRetree(t, l, tree, now)
		}
		for i := range tree {
			checkNoRetree(t, l, changed(tree, i, func(c *impl.Class) { c.Burst = 1499 }), 100)
			checkNoRetree(t, l, changed(tree, i, func(c *impl.Class) { c.Rate = c.Ceil + 1 }), 100)
			checkNoRetree(t, l, changed(tree, i, func(c *impl.Class) { c.Parent = 5 }), 100)
		}
		checkNoRetree(t, l, changed(tree, 0, func(c *impl.Class) { c.Rate = 0 }), 100)
	}
	for _, n := range []int{1, 2, 4, 6, 7, 30, 31} {
		for _, tree := range [][]impl.Class{chainOf(n), starOf(n)} {
			checkNoRetree(t, l, tree, 100)
		}
	}
	checkNoRetree(t, l, branchTree()[:4], 100)
	checkNoRetree(t, l, append(branchTree(), impl.Class{Parent: 0, Burst: 1500}), 100)
	checkNoRetree(t, l, nil, 100)
	checkNoRetree(t, l, []impl.Class{}, 100)
	checkNoRetree(t, checkNewLend(t, chainOf(30), 0), starOf(31), 0)
	checkNoRetree(t, checkNewLend(t, chainOf(1), 0), nil, 0)
	checkRetree(t, checkNewLend(t, chainOf(30), 0), starOf(30), 0)
	checkRetree(t, checkNewLend(t, chainOf(1), 0), []impl.Class{lone(0, 0, 1500)}, 0)
}

func lendOfCeil(t *testing.T, ceil int64, burst int64) impl.Lend {
	t.Helper()
	return checkNewLend(t, []impl.Class{lone(0, ceil, burst)}, 100)
}

func TestBoundByHand(t *testing.T) {
	for _, c := range [][4]int64{
		{1000, 1500, 0, 1500},
		{1000, 1500, 1, 1501},
		{1000, 1500, 999999, 1501},
		{1000, 1500, 1000000, 1501},
		{1000, 1500, 1000001, 1502},
		{4, 2000, 250000000, 2001},
		{4, 2000, 250000001, 2002},
		{4, 2000, 249999999, 2001},
		{1, 1500, 1, 1501},
		{1, 1500, billion, 1501},
		{1, 1500, billion + 1, 1502},
		{billion, 1500, 1, 1501},
		{billion + 1, 1500, 1, 1502},
		{billion - 1, 1500, 1, 1501},
		{3, 1500, impl.MaxTime, 1500 + 3000000},
		{3, 1500, impl.MaxTime - 1, 1500 + 3000000},
		{0, 1500, 0, 1500},
		{0, impl.MaxWindow, impl.MaxTime, impl.MaxWindow},
		{impl.MaxRate, 1500, 0, 1500},
		{impl.MaxRate, 1500, 1, 2500},
		{impl.MaxRate - 1, 1500, 1, 2500},
		{impl.MaxRate, impl.MaxWindow, impl.MaxTime, 1000000001000000000},
		{impl.MaxRate - 1, 1500, impl.MaxTime - 1, 999999999998999000 + 1500 + 1},
	} {
		checkBound(t, lendOfCeil(t, c[0], c[1]), 0, c[2], c[3])
	}
}

// The bound hangs on the class alone: not on the time, nor on what is left in a bucket.
func TestBoundOfEach(t *testing.T) {
	l := branchLend(t)
	for i, c := range l.Tree {
		for _, from := range []impl.Lend{l, emptyLend(l.Tree, 0), emptyLend(l.Tree, impl.MaxTime)} {
			checkBound(t, from, int64(i), 0, c.Burst)
			checkBound(t, from, int64(i), 1, c.Burst+1)
			checkBound(t, from, int64(i), billion, c.Burst+c.Ceil)
			checkBound(t, from, int64(i), billion+1, c.Burst+c.Ceil+1)
			checkBound(t, from, int64(i), impl.MaxTime, c.Burst+c.Ceil*1000000)
		}
		for _, ns := range noTimes() {
			checkBound(t, l, int64(i), ns, -1)
		}
	}
	for _, i := range []int64{-1, -2, 5, 6, 30, math.MinInt64, math.MaxInt64} {
		checkBound(t, l, i, 0, -1)
		checkBound(t, l, i, 1000, -1)
	}
}

func TestBoundAtEdges(t *testing.T) {
	for _, ceil := range append(edges(), 999999999, 1000000007) {
		if !isOf(ceil, impl.MaxRate) {
			continue
		}
		l := lendOfCeil(t, ceil, 1500)
		for _, ns := range append(edges(), 999999999, 1000000007) {
			checkBound(t, l, 0, ns, wantBound(l, 0, ns))
		}
	}
	state := uint64(72)
	for range 20000 {
		l := lendOfCeil(t, mixed(&state)%(impl.MaxRate+1), 1500+mixed(&state)%5000)
		ns := mixed(&state) % (impl.MaxTime + 1)
		checkBound(t, l, 0, ns, wantBound(l, 0, ns))
	}
}

func TestLendsAtEveryArgument(t *testing.T) {
	l := branchLend(t)
	for _, x := range edges() {
		checkNewLend(t, branchTree(), x)
		checkRetree(t, l, starOf(5), x)
		checkBound(t, l, x, 9, wantBound(l, x, 9))
		for _, y := range edges() {
			checkLending(t, l, x, y, 9)
			checkLending(t, l, x, 200, y)
			checkLending(t, l, 3, x, y)
		}
	}
}

// A spending is what went at a leaf at a time.
type spending struct {
	leaf int64
	taking
}

// below picks what was spent below a class.
func below(tree []impl.Class, i int64, list []spending) []taking {
	var takings []taking
	under := wantUnder(tree, i)
	for _, s := range list {
		if slices.Contains(under, s.leaf) {
			takings = append(takings, s.taking)
		}
	}
	return takings
}

// checkBounds is the promise's first half: between any two times, below any class.
func checkBounds(t *testing.T, l impl.Lend, list []spending) {
	t.Helper()
	for i, c := range l.Tree {
		takings := below(l.Tree, int64(i), list)
		// To the billionth of a byte, which is less than Bound, in every time.
		checkTakings(t, c.Ceil, c.Burst, takings)
		var sum int64
		for _, x := range takings {
			sum += x.n
			if bound := impl.Bound(l, int64(i), x.at-takings[0].at); sum > bound {
				t.Fatalf("%d bytes were spent below %d of %v, bound to %d", sum, i, l.Tree, bound)
			}
		}
	}
}

// checkNeedNotBorrow is its second half.
func checkNeedNotBorrow(t *testing.T, l impl.Lend, leaf int64, now int64, n int64) {
	t.Helper()
	full := wantFilled(l, now)
	for _, i := range wantPath(l.Tree, leaf) {
		if full.Top[i].Level/billion < n {
			checkAsk(t, l, leaf, now, n, -1)
			return
		}
	}
	if full.Own[leaf].Level/billion >= n {
		checkAsk(t, l, leaf, now, n, leaf)
	}
}

func kindOf(leaf int64, lender int64) string {
	switch lender {
	case -2:
		return "refused"
	case -1:
		return "nobody"
	case leaf:
		return "leaf"
	}
	return "above"
}

// A row is a Lend that is spent from again and again.
type row struct {
	t       *testing.T
	lend    impl.Lend
	spent   []spending
	lenders map[string]int
}

func newRow(t *testing.T, tree []impl.Class) *row {
	t.Helper()
	return &row{t: t, lend: checkNewLend(t, tree, 0), lenders: map[string]int{}}
}

func (r *row) spend(leaf int64, now int64, n int64) {
	r.t.Helper()
	checkNeedNotBorrow(r.t, r.lend, leaf, now, n)
	next, lender := checkLending(r.t, r.lend, leaf, now, n)
	r.lenders[kindOf(leaf, lender)]++
	if lender >= 0 {
		r.spent = append(r.spent, spending{leaf, taking{now, n}})
	}
	r.lend = next
}

// by spends at any leaf, at times up to a stride apart, many at one time among them.
func (r *row) by(state *uint64, steps int, stride int64) {
	r.t.Helper()
	leaves := wantLeaves(r.lend.Tree)
	for range steps {
		now := r.lend.Own[0].At
		if mixed(state)%3 == 0 {
			now += mixed(state) % (stride + 1)
		}
		n := 1 + mixed(state)%impl.MaxSegment
		if mixed(state)%2 == 0 {
			n = impl.MaxSegment
		}
		r.spend(leaves[mixed(state)%int64(len(leaves))], now, n)
	}
}

// termsOf gives a tree with rates of many sizes, some where a Ceil binds and some where Rates do.
func termsOf(tree []impl.Class) [][]impl.Class {
	return [][]impl.Class{
		tree,
		withLeastCeil(tree),
		withRates(withLeastCeil(tree), 1000),
		withBurst(withRates(tree, 30), 1500),
		withSpare(tree),
		withBurst(withSpare(tree), 1500),
		withBurst(withRates(withLeastCeil(tree), 12345), 40000),
	}
}

func TestNobodyPassesABound(t *testing.T) {
	state := uint64(70)
	seen := map[string]int{}
	for _, shape := range shapes() {
		for _, tree := range termsOf(shape) {
			for _, stride := range []int64{0, 1000000, 10000000, billion} {
				r := newRow(t, tree)
				r.by(&state, 60, stride)
				checkBounds(t, r.lend, r.spent)
				for who, times := range r.lenders {
					seen[who] += times
				}
			}
		}
	}
	for _, who := range []string{"leaf", "above", "nobody"} {
		if seen[who] < 1000 {
			t.Fatal("too few of a kind were met:", seen)
		}
	}
}

func TestLongRows(t *testing.T) {
	state := uint64(71)
	for i, tree := range [][]impl.Class{treeOf(-1), branchTree(), chainOf(4), starOf(5), combOf(7), anyTree(&state, 30)} {
		for _, terms := range [][]impl.Class{withRates(withLeastCeil(tree), int64(1000+1000*i)), withSpare(tree)} {
			r := newRow(t, terms)
			r.by(&state, 400, billion/2)
			if len(r.spent) < 50 {
				t.Fatal("too little was spent:", terms, r.lenders)
			}
			checkBounds(t, r.lend, r.spent)
		}
	}
}

func (r *row) sum() int64 {
	var sum int64
	for _, s := range r.spent {
		sum += s.n
	}
	return sum
}

// Who spends all there is, as soon as there is some, comes to the bound and not past it.
func TestTheBoundIsReached(t *testing.T) {
	one := newRow(t, []impl.Class{lone(3000, 3000, 1500)})
	one.spend(0, 0, 1500)
	for ms := range int64(500) {
		for range 3 {
			one.spend(0, ms*1000000, 3)
		}
		if sum := one.sum(); sum != 1500+3*ms || sum != impl.Bound(one.lend, 0, ms*1000000) {
			t.Fatal(sum, ms)
		}
	}
	checkBounds(t, one.lend, one.spent)
}

// Two leaves have enough of their own; it is the class above them that is at its bound.
func TestTheBoundIsReachedTogether(t *testing.T) {
	r := newRow(t, []impl.Class{
		lone(6000, 6000, 100000),
		{Parent: 0, Rate: 3000, Ceil: 3000, Burst: 1500},
		{Parent: 1, Rate: 1500, Ceil: 3000, Burst: 1500},
		{Parent: 1, Rate: 1500, Ceil: 3000, Burst: 1500},
	})
	r.spend(2, 0, 700)
	r.spend(3, 0, 800)
	for ms := range int64(500) {
		r.spend(2+ms%2, ms*1000000, 3)
		r.spend(3-ms%2, ms*1000000, 3)
		if sum := r.sum(); sum != 1500+3*ms || sum != impl.Bound(r.lend, 1, ms*1000000) {
			t.Fatal(sum, ms)
		}
	}
	checkBounds(t, r.lend, r.spent)
}

// From a Retree on the new bounds hold, whatever was there before.
func TestBoundsAfterRetree(t *testing.T) {
	state := uint64(73)
	for i := range 60 {
		n := 1 + i%30
		r := newRow(t, withLeastCeil(anyTree(&state, n)))
		for range 5 {
			r.by(&state, 30, billion/10)
			checkBounds(t, r.lend, r.spent)
			tree := anyTree(&state, n)
			tree = termsOf(tree)[mixed(&state)%7]
			r.lend = checkRetree(t, r.lend, tree, r.lend.Top[0].At+mixed(&state)%billion)
			r.spent = nil
		}
	}
}

// spoiled is a Lend with one thing that is changed by a little: some are still right.
func spoiled(state *uint64, l impl.Lend) impl.Lend {
	return changedLend(l, func(l *impl.Lend) {
		list := l.Own
		if mixed(state)%2 == 0 {
			list = l.Top
		}
		b := &list[mixed(state)%int64(len(list))]
		switch mixed(state) % 6 {
		case 0:
			b.Rate += mixed(state)%3 - 1
		case 1:
			b.Burst += mixed(state)%3 - 1
		case 2:
			b.At += mixed(state)%3 - 1
		case 3:
			b.Level += mixed(state)%(4*billion) - 2*billion
		case 4:
			l.Tree[mixed(state)%int64(len(l.Tree))].Ceil += mixed(state)%3 - 1
		case 5:
			l.Own = l.Own[:int64(len(l.Own))-mixed(state)%2]
		}
	})
}

func anyLevels(state *uint64, l impl.Lend) impl.Lend {
	return changedLend(l, func(l *impl.Lend) {
		for i, c := range l.Tree {
			l.Own[i].Level = mixed(state) % (c.Burst*billion + 1)
			l.Top[i].Level = mixed(state) % (c.Burst*billion + 1)
			if mixed(state)%4 > 0 {
				l.Top[i].Level = c.Burst * billion
			}
		}
	})
}

func TestMixedLends(t *testing.T) {
	state := uint64(74)
	seen := map[string]int{}
	for range 6000 {
		tree := anyTree(&state, 1+int(mixed(&state)%30))
		l := anyLevels(&state, checkNewLend(t, tree, mixed(&state)%1000))
		if mixed(&state)%3 == 0 {
			l = spoiled(&state, l)
		}
		checkLendOk(t, l, wantLendOk(l))
		leaf := mixed(&state) % int64(len(tree)+1)
		now := mixed(&state) % 2000
		_, lender := checkLending(t, l, leaf, now, 1+mixed(&state)%1501)
		seen[kindOf(leaf, lender)]++
		checkRetree(t, l, anyTree(&state, len(tree)), now)
		checkBound(t, l, leaf, now, wantBound(l, leaf, now))
	}
	for _, kind := range []string{"leaf", "above", "nobody", "refused"} {
		if seen[kind] < 100 {
			t.Fatal("too few of a kind were met:", seen)
		}
	}
}

// bucketsWithRoom has room behind the list: whoever wrote there would be seen.
func bucketsWithRoom(list []impl.Bucket) ([]impl.Bucket, []impl.Bucket) {
	whole := slices.Clone(list)
	for range 4 {
		whole = append(whole, bucketOf(71, 72, 73, 74))
	}
	return whole[:len(list):len(whole)], whole
}

// lendWithRoom gives also the Lend whose lists have that room as their own.
func lendWithRoom(l impl.Lend) (impl.Lend, impl.Lend) {
	var room, whole impl.Lend
	room.Tree, whole.Tree = treeWithRoom(l.Tree)
	room.Own, whole.Own = bucketsWithRoom(l.Own)
	room.Top, whole.Top = bucketsWithRoom(l.Top)
	return room, whole
}

// spoil writes into a list and into all the room behind it.
func spoil[T any](list []T, with T) {
	list = list[:cap(list)]
	for i := range list {
		list[i] = with
	}
}

// checkOwnLists spoils the lists of an answer one by one, and wants the others to stay.
func checkOwnLists(t *testing.T, name string, l impl.Lend) {
	t.Helper()
	before := copiedLend(l)
	spoil(l.Own, bucketOf(-5, -6, -7, -8))
	if !slices.Equal(l.Top, before.Top) || !slices.Equal(l.Tree, before.Tree) {
		t.Fatalf("%s: two lists of one answer share memory", name)
	}
	copy(l.Own, before.Own)
	spoil(l.Top, bucketOf(-5, -6, -7, -8))
	if !slices.Equal(l.Own, before.Own) || !slices.Equal(l.Tree, before.Tree) {
		t.Fatalf("%s: two lists of one answer share memory", name)
	}
	spoil(l.Tree, impl.Class{Parent: -5, Rate: -6, Ceil: -7, Burst: -8})
}

// checkLendAnswer spoils an answer, and wants another one and the arguments to be as they were.
func checkLendAnswer(t *testing.T, name string, wholes []impl.Lend, act func() impl.Lend) {
	t.Helper()
	var before []impl.Lend
	for _, whole := range wholes {
		before = append(before, copiedLend(whole))
	}
	first, second := act(), act()
	want := copiedLend(second)
	checkOwnLists(t, name, first)
	if !isSameLend(second, want) {
		t.Fatalf("%s: %+v is %+v when another answer is written into", name, want, second)
	}
	for i, whole := range wholes {
		if !isSameLend(whole, before[i]) {
			t.Fatalf("%s: %+v was written into: %+v", name, before[i], whole)
		}
	}
	if third := act(); !isSameLend(third, want) {
		t.Fatalf("%s: %+v is %+v when it is asked for again", name, want, third)
	}
}

func checkLendMemory(t *testing.T, given impl.Lend, leaf int64, now int64, n int64) {
	t.Helper()
	l, whole := lendWithRoom(given)
	tree, wholeTree := treeWithRoom(starOf(len(given.Tree)))
	wholes := []impl.Lend{whole, {Tree: wholeTree}}
	checkLendAnswer(t, "NewLend", wholes, func() impl.Lend {
		next, _ := impl.NewLend(tree, now)
		return next
	})
	checkLendAnswer(t, "Spend", wholes, func() impl.Lend {
		next, _ := impl.Spend(l, leaf, now, n)
		return next
	})
	checkLendAnswer(t, "Retree", wholes, func() impl.Lend {
		next, _ := impl.Retree(l, tree, now)
		return next
	})
	checkLendAnswer(t, "Retree to its own tree", wholes, func() impl.Lend {
		next, _ := impl.Retree(l, l.Tree, now)
		return next
	})
	checkLendAnswer(t, "LendOk, Ask and Bound", wholes, func() impl.Lend {
		impl.LendOk(l)
		impl.Ask(l, leaf, now, n)
		impl.Bound(l, leaf, now)
		return impl.Lend{}
	})
}

func TestLendMemory(t *testing.T) {
	for _, tree := range shapes() {
		full := checkNewLend(t, tree, 100)
		for _, l := range []impl.Lend{full, emptyLend(tree, 100)} {
			for _, leaf := range append(wantLeaves(tree), 0, -1, int64(len(tree))) {
				// At the buckets' own time nothing is filled; a list could be handed through.
				for _, now := range []int64{99, 100, 101, 100 + billion} {
					checkLendMemory(t, l, leaf, now, 1500)
				}
			}
		}
		checkLendMemory(t, changedLend(full, func(l *impl.Lend) { l.Top[0].Level = -1 }), 0, 100, 1)
	}
	checkLendMemory(t, impl.Lend{}, 0, 0, 1)
}

// A Lend does not change with the tree that it was made of.
func TestLendKeepsItsTree(t *testing.T) {
	tree := branchTree()
	l, _ := impl.NewLend(tree, 100)
	next, _ := impl.Retree(l, tree, 200)
	for i := range tree {
		tree[i] = impl.Class{}
	}
	if !slices.Equal(l.Tree, branchTree()) || !slices.Equal(next.Tree, branchTree()) {
		t.Fatal(l, next)
	}
	checkAsk(t, l, 2, 100, 1, 2)
	checkAsk(t, next, 2, 200, 1, 2)
}
