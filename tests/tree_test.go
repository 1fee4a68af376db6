package tests

import (
	"math"
	"slices"
	"testing"

	"loop.example/g00147/impl"
)

// treeOf has a class for each parent. Each class is assured of what its
// children are assured of, and of a little more, and has a lesser Ceil than
// the one above it: of no two unlike numbers is one as good as the other.
func treeOf(parents ...int64) []impl.Class {
	tree := make([]impl.Class, len(parents))
	for i := len(tree) - 1; i >= 0; i-- {
		tree[i].Parent = parents[i]
		tree[i].Rate += int64(10 + 7*i%11)
		tree[i].Burst = int64(1500 + 100*i)
		if i > 0 {
			tree[parents[i]].Rate += tree[i].Rate
		}
	}
	for i := range tree {
		tree[i].Ceil = 1000000
		if i > 0 {
			tree[i].Ceil = tree[parents[i]].Ceil - 10
		}
	}
	return tree
}

func treeBy(n int, parent func(int64) int64) []impl.Class {
	parents := []int64{-1}
	for i := 1; i < n; i++ {
		parents = append(parents, parent(int64(i)))
	}
	return treeOf(parents[:n]...)
}

func chainOf(n int) []impl.Class {
	return treeBy(n, func(i int64) int64 { return i - 1 })
}

func starOf(n int) []impl.Class {
	return treeBy(n, func(i int64) int64 { return 0 })
}

// The odd numbers are the chain, each even one is a branch at its side.
func combOf(n int) []impl.Class {
	return treeBy(n, func(i int64) int64 { return max(0, i-3+i%2) })
}

func forkOf(n int) []impl.Class {
	return treeBy(n, func(i int64) int64 { return (i - 1) / 2 })
}

func anyTree(state *uint64, n int) []impl.Class {
	return treeBy(n, func(i int64) int64 { return mixed(state) % i })
}

func shapes() [][]impl.Class {
	list := [][]impl.Class{treeOf(-1)}
	for _, n := range []int{2, 3, 4, 7, 29, 30} {
		list = append(list, chainOf(n), starOf(n), combOf(n), forkOf(n))
	}
	return list
}

// lone is a class above which there is none.
func lone(rate int64, ceil int64, burst int64) impl.Class {
	return impl.Class{Parent: -1, Rate: rate, Ceil: ceil, Burst: burst}
}

func changed(tree []impl.Class, i int, change func(*impl.Class)) []impl.Class {
	tree = slices.Clone(tree)
	change(&tree[i])
	return tree
}

func isParentByWords(i int, parent int64) bool {
	if i == 0 {
		return parent == -1
	}
	return parent >= 0 && parent < int64(i)
}

func areRatesByWords(tree []impl.Class, i int) bool {
	c := tree[i]
	if i > 0 && c.Ceil > tree[c.Parent].Ceil {
		return false
	}
	return isOf(c.Rate, 1e12) && isOf(c.Ceil, 1e12) && c.Rate <= c.Ceil && c.Burst >= 1500 && c.Burst <= 1e9
}

// wantSpares tells every class's Spare at once, whether it is below 0 or not.
func wantSpares(tree []impl.Class) []int64 {
	spares := make([]int64, len(tree))
	for i, c := range tree {
		spares[i] += c.Rate
		if i > 0 {
			spares[c.Parent] -= c.Rate
		}
	}
	return spares
}

func wantTreeOk(tree []impl.Class) int64 {
	if len(tree) == 0 || len(tree) > 30 {
		return 1
	}
	for i, c := range tree {
		if !isParentByWords(i, c.Parent) {
			return 2
		}
		if !areRatesByWords(tree, i) {
			return 3
		}
	}
	if slices.Min(wantSpares(tree)) < 0 {
		return 4
	}
	return 0
}

func hasClassByWords(tree []impl.Class, i int64) bool {
	return wantTreeOk(tree) == 0 && i >= 0 && i < int64(len(tree))
}

// wantPath has the path of each class from that of its parent, which is ahead.
func wantPath(tree []impl.Class, i int64) []int64 {
	if !hasClassByWords(tree, i) {
		return nil
	}
	paths := [][]int64{{0}}
	for k := 1; k < len(tree); k++ {
		paths = append(paths, append([]int64{int64(k)}, paths[tree[k].Parent]...))
	}
	return paths[i]
}

func wantLeaves(tree []impl.Class) []int64 {
	if wantTreeOk(tree) != 0 {
		return nil
	}
	var leaves []int64
	for i := range tree {
		children := 0
		for _, c := range tree {
			if c.Parent == int64(i) {
				children++
			}
		}
		if children == 0 {
			leaves = append(leaves, int64(i))
		}
	}
	return leaves
}

// wantUnder marks from the top down: what has a marked parent is marked.
func wantUnder(tree []impl.Class, i int64) []int64 {
	if !hasClassByWords(tree, i) {
		return nil
	}
	var under []int64
	marked := make([]bool, len(tree))
	for k, c := range tree {
		marked[k] = int64(k) == i || k > 0 && marked[c.Parent]
		if marked[k] {
			under = append(under, int64(k))
		}
	}
	return under
}

func wantSpare(tree []impl.Class, i int64) int64 {
	if !hasClassByWords(tree, i) {
		return -1
	}
	return wantSpares(tree)[i]
}

func checkTreeOk(t *testing.T, tree []impl.Class, want int64) {
	t.Helper()
	if code := impl.TreeOk(tree); code != want {
		t.Fatalf("TreeOk(%v) = %d, want %d", tree, code, want)
	}
}

func checkPath(t *testing.T, tree []impl.Class, i int64, want ...int64) {
	t.Helper()
	if path := impl.Path(tree, i); !slices.Equal(path, want) {
		t.Fatalf("Path(%v, %d) = %v, want %v", tree, i, path, want)
	}
}

func checkLeaves(t *testing.T, tree []impl.Class, want ...int64) {
	t.Helper()
	if leaves := impl.Leaves(tree); !slices.Equal(leaves, want) {
		t.Fatalf("Leaves(%v) = %v, want %v", tree, leaves, want)
	}
}

func checkUnder(t *testing.T, tree []impl.Class, i int64, want ...int64) {
	t.Helper()
	if under := impl.Under(tree, i); !slices.Equal(under, want) {
		t.Fatalf("Under(%v, %d) = %v, want %v", tree, i, under, want)
	}
}

func checkSpare(t *testing.T, tree []impl.Class, i int64, want int64) {
	t.Helper()
	if spare := impl.Spare(tree, i); spare != want {
		t.Fatalf("Spare(%v, %d) = %d, want %d", tree, i, spare, want)
	}
}

// checkNoClass holds of a class that is none, in a tree or in what is none.
func checkNoClass(t *testing.T, tree []impl.Class, i int64) {
	t.Helper()
	checkPath(t, tree, i)
	checkUnder(t, tree, i)
	checkSpare(t, tree, i, -1)
}

// checkNoTree asks for classes that a tree would have, and for others.
func checkNoTree(t *testing.T, tree []impl.Class, code int64) {
	t.Helper()
	checkTreeOk(t, tree, code)
	checkLeaves(t, tree)
	for i := int64(-2); i < int64(len(tree))+2; i++ {
		checkNoClass(t, tree, i)
	}
	checkNoClass(t, tree, math.MinInt64)
	checkNoClass(t, tree, math.MaxInt64)
}

// checkTree holds every function against the plain ones, at each class and around.
func checkTree(t *testing.T, tree []impl.Class) {
	t.Helper()
	given := slices.Clone(tree)
	checkTreeOk(t, tree, wantTreeOk(tree))
	checkLeaves(t, tree, wantLeaves(tree)...)
	for i := int64(-2); i < int64(len(tree))+2; i++ {
		checkPath(t, tree, i, wantPath(tree, i)...)
		checkUnder(t, tree, i, wantUnder(tree, i)...)
		checkSpare(t, tree, i, wantSpare(tree, i))
	}
	if !slices.Equal(tree, given) {
		t.Fatalf("%v was written into: %v", given, tree)
	}
}

// checkPathLeadsUp is the promise's first half, in its own words.
func checkPathLeadsUp(t *testing.T, tree []impl.Class, i int64) {
	t.Helper()
	path := impl.Path(tree, i)
	if len(path) == 0 || path[0] != i || path[len(path)-1] != 0 {
		t.Fatalf("Path(%v, %d) = %v: it does not lead from there to the first class", tree, i, path)
	}
	for k := 1; k < len(path); k++ {
		if path[k] != tree[path[k-1]].Parent {
			t.Fatalf("Path(%v, %d) = %v: %d is not the one above", tree, i, path, path[k])
		}
	}
}

// checkUnderIsBelow is its second half: just the classes that have i on their path.
func checkUnderIsBelow(t *testing.T, tree []impl.Class, i int64) {
	t.Helper()
	var below []int64
	for k := range int64(len(tree)) {
		if slices.Contains(impl.Path(tree, k), i) {
			below = append(below, k)
		}
	}
	checkUnder(t, tree, i, below...)
}

func checkTreePromise(t *testing.T, tree []impl.Class) {
	t.Helper()
	checkTreeOk(t, tree, 0)
	checkTree(t, tree)
	for i := range int64(len(tree)) {
		checkPathLeadsUp(t, tree, i)
		checkUnderIsBelow(t, tree, i)
		isLeaf := slices.Contains(impl.Leaves(tree), i)
		if isLeaf != (len(impl.Under(tree, i)) == 1) {
			t.Fatalf("%v: is %d a leaf? Leaves: %v, Under: %v", tree, i, impl.Leaves(tree), impl.Under(tree, i))
		}
	}
}

func TestTreeConstants(t *testing.T) {
	if impl.MaxClasses != 30 {
		t.Fatal(impl.MaxClasses)
	}
	codes := []int64{impl.TrCount, impl.TrParent, impl.TrRate, impl.TrSum}
	if !slices.Equal(codes, []int64{1, 2, 3, 4}) {
		t.Fatal(codes)
	}
}

func TestOneClass(t *testing.T) {
	tree := []impl.Class{lone(40, 50, 1500)}
	checkTreePromise(t, tree)
	checkPath(t, tree, 0, 0)
	checkLeaves(t, tree, 0)
	checkUnder(t, tree, 0, 0)
	checkSpare(t, tree, 0, 40)
}

func TestTreeByHand(t *testing.T) {
	// 0 has 1, 2 and 6; 1 has 3 and 5; 3 has 4.
	tree := []impl.Class{
		{Parent: -1, Rate: 100, Ceil: 200, Burst: 1500},
		{Parent: 0, Rate: 50, Ceil: 200, Burst: 1501},
		{Parent: 0, Rate: 20, Ceil: 199, Burst: 1000000000},
		{Parent: 1, Rate: 30, Ceil: 100, Burst: 3000},
		{Parent: 3, Rate: 30, Ceil: 30, Burst: 1500},
		{Parent: 1, Rate: 7, Ceil: 8, Burst: 1500},
		{Parent: 0, Rate: 0, Ceil: 0, Burst: 1500},
	}
	checkTreePromise(t, tree)
	checkPath(t, tree, 4, 4, 3, 1, 0)
	checkPath(t, tree, 5, 5, 1, 0)
	checkPath(t, tree, 6, 6, 0)
	checkPath(t, tree, 0, 0)
	checkLeaves(t, tree, 2, 4, 5, 6)
	checkUnder(t, tree, 0, 0, 1, 2, 3, 4, 5, 6)
	checkUnder(t, tree, 1, 1, 3, 4, 5)
	checkUnder(t, tree, 2, 2)
	checkUnder(t, tree, 3, 3, 4)
	checkSpare(t, tree, 0, 30)
	checkSpare(t, tree, 1, 13)
	checkSpare(t, tree, 3, 0)
	checkSpare(t, tree, 4, 30)
	checkSpare(t, tree, 6, 0)
}

func TestChain(t *testing.T) {
	tree := chainOf(impl.MaxClasses)
	checkTreePromise(t, tree)
	checkLeaves(t, tree, 29)
	path := impl.Path(tree, 29)
	under := impl.Under(tree, 0)
	for i := range int64(30) {
		if len(path) != 30 || path[i] != 29-i || len(under) != 30 || under[i] != i {
			t.Fatal(path, under)
		}
	}
}

func TestStar(t *testing.T) {
	tree := starOf(impl.MaxClasses)
	checkTreePromise(t, tree)
	leaves := impl.Leaves(tree)
	for i := int64(1); i < 30; i++ {
		checkPath(t, tree, i, i, 0)
		checkUnder(t, tree, i, i)
		if len(leaves) != 29 || leaves[i-1] != i {
			t.Fatal(leaves)
		}
	}
}

func TestChainWithBranches(t *testing.T) {
	tree := combOf(7)
	checkTreePromise(t, tree)
	// 1, 3 and 5 are the chain, 2, 4 and 6 hang beside them.
	checkPath(t, tree, 5, 5, 3, 1, 0)
	checkPath(t, tree, 6, 6, 3, 1, 0)
	checkLeaves(t, tree, 2, 4, 5, 6)
	checkUnder(t, tree, 3, 3, 5, 6)
}

func TestShapes(t *testing.T) {
	for _, tree := range shapes() {
		checkTreePromise(t, tree)
	}
}

// Every shape that a few classes can have.
func TestEverySmallShape(t *testing.T) {
	count := 0
	var grow func(parents []int64)
	grow = func(parents []int64) {
		checkTreePromise(t, treeOf(parents...))
		count++
		if len(parents) == 7 {
			return
		}
		for p := range parents {
			grow(append(slices.Clone(parents), int64(p)))
		}
	}
	grow([]int64{-1})
	if count != 1+1+2+6+24+120+720 {
		t.Fatal(count)
	}
}

func TestMixedShapes(t *testing.T) {
	state := uint64(11)
	for i := range 300 {
		checkTreePromise(t, anyTree(&state, 1+i%30))
	}
}

func TestTreeCounts(t *testing.T) {
	checkNoTree(t, nil, impl.TrCount)
	checkNoTree(t, []impl.Class{}, impl.TrCount)
	checkTreeOk(t, chainOf(1), 0)
	for _, n := range []int{29, 30} {
		checkTreeOk(t, chainOf(n), 0)
		checkTreeOk(t, starOf(n), 0)
	}
	for _, n := range []int{31, 32, 60, 1000} {
		checkNoTree(t, starOf(n), impl.TrCount)
	}
	// Too many come ahead of whatever else is wrong with them.
	checkNoTree(t, make([]impl.Class, 31), impl.TrCount)
	wrong := changed(starOf(31), 30, func(c *impl.Class) { c.Parent, c.Rate = 30, -1 })
	checkNoTree(t, wrong, impl.TrCount)
	checkNoTree(t, make([]impl.Class, 30), impl.TrParent)
}

func TestParents(t *testing.T) {
	withParent := func(i int, parent int64) []impl.Class {
		return changed(starOf(5), i, func(c *impl.Class) { c.Parent = parent })
	}
	for _, parent := range []int64{-2, 0, 1, 4, 5, math.MinInt64, math.MaxInt64} {
		checkNoTree(t, withParent(0, parent), impl.TrParent)
	}
	for i := 1; i < 5; i++ {
		n := int64(i)
		for _, parent := range []int64{-1, -2, n, n + 1, 4, 5, 29, 30, math.MinInt64, math.MaxInt64} {
			if parent >= n || parent < 0 {
				checkNoTree(t, withParent(i, parent), impl.TrParent)
			}
		}
	}
	// Just the number ahead, in a chain, and any other one that is ahead.
	chain := chainOf(5)
	for i := 1; i < 5; i++ {
		checkTreeOk(t, chain[:i+1], 0)
		for parent := range int64(i) {
			tree := changed(chain[:i+1], i, func(c *impl.Class) { c.Parent = parent })
			checkTreePromise(t, changed(tree, i, func(c *impl.Class) { c.Rate = 0 }))
		}
	}
}

// Two classes that have each other as Parent, or themselves: a path must not run for ever.
func TestParentsInARing(t *testing.T) {
	tree := starOf(4)
	tree[1].Parent, tree[2].Parent = 2, 1
	checkNoTree(t, tree, impl.TrParent)
	for i := range tree {
		tree[i].Parent = int64(i)
	}
	checkNoTree(t, tree, impl.TrParent)
	for i := range tree {
		tree[i].Parent = -1
	}
	checkNoTree(t, tree, impl.TrParent)
}

func TestRatesOfOne(t *testing.T) {
	top := int64(impl.MaxRate)
	for _, right := range [][2]int64{{0, 0}, {0, 1}, {1, 1}, {0, top}, {5, 5}, {top - 1, top}, {top, top}} {
		tree := []impl.Class{lone(right[0], right[1], 1500)}
		checkTreePromise(t, tree)
		checkSpare(t, tree, 0, right[0])
	}
	for _, wrong := range [][2]int64{
		{1, 0}, {6, 5}, {top, top - 1},
		{0, top + 1}, {top + 1, top + 1}, {top + 1, top}, {5, math.MaxInt64}, {math.MaxInt64, math.MaxInt64},
		{-1, 0}, {-1, 5}, {-1, -1}, {-2, -1}, {0, -1}, {-1, top}, {math.MinInt64, 5}, {5, math.MinInt64},
		{math.MinInt64, math.MaxInt64}, {math.MinInt64, math.MinInt64},
	} {
		checkNoTree(t, []impl.Class{lone(wrong[0], wrong[1], 1500)}, impl.TrRate)
	}
}

// The bounds of a class hold of every number, whatever is above or below it.
func TestRatesOfEach(t *testing.T) {
	for _, tree := range [][]impl.Class{chainOf(6), starOf(6), forkOf(6)} {
		for i := range tree {
			setRate := func(rate int64) []impl.Class {
				return changed(tree, i, func(c *impl.Class) { c.Rate = rate })
			}
			setCeil := func(ceil int64) []impl.Class {
				return changed(tree, i, func(c *impl.Class) { c.Ceil = ceil })
			}
			checkNoTree(t, setRate(-1), impl.TrRate)
			checkNoTree(t, setRate(tree[i].Ceil+1), impl.TrRate)
			checkNoTree(t, setRate(math.MaxInt64), impl.TrRate)
			checkNoTree(t, setRate(math.MinInt64), impl.TrRate)
			checkNoTree(t, setCeil(-1), impl.TrRate)
			checkNoTree(t, setCeil(tree[i].Rate-1), impl.TrRate)
			checkNoTree(t, setCeil(impl.MaxRate+1), impl.TrRate)
			checkNoTree(t, setCeil(math.MaxInt64), impl.TrRate)
			checkNoTree(t, setCeil(math.MinInt64), impl.TrRate)
		}
	}
}

func TestCeilOfTheParent(t *testing.T) {
	for _, tree := range [][]impl.Class{chainOf(6), starOf(6), combOf(6), forkOf(6)} {
		for i := 1; i < len(tree); i++ {
			above := tree[tree[i].Parent].Ceil
			checkTreePromise(t, changed(tree, i, func(c *impl.Class) { c.Ceil = above }))
			checkNoTree(t, changed(tree, i, func(c *impl.Class) { c.Ceil = above + 1 }), impl.TrRate)
		}
	}
	// It is the parent's that counts, not the first one's nor that of the one ahead.
	tree := []impl.Class{lone(0, 100, 1500), {Parent: 0, Ceil: 50, Burst: 1500}, {Parent: 0, Ceil: 80, Burst: 1500}, {Parent: 1, Ceil: 50, Burst: 1500}}
	checkTreePromise(t, tree)
	checkNoTree(t, changed(tree, 3, func(c *impl.Class) { c.Ceil = 51 }), impl.TrRate)
	// The greatest one, all the way down; and none at all.
	for _, ceil := range []int64{0, impl.MaxRate} {
		chain := chainOf(30)
		for i := range chain {
			chain[i].Rate, chain[i].Ceil = ceil, ceil
		}
		checkTreePromise(t, chain)
	}
}

func TestBursts(t *testing.T) {
	for _, tree := range [][]impl.Class{chainOf(1), chainOf(5), starOf(5)} {
		for i := range tree {
			for _, right := range []int64{1500, 1501, 999999999, 1000000000} {
				checkTreePromise(t, changed(tree, i, func(c *impl.Class) { c.Burst = right }))
			}
			for _, wrong := range []int64{1499, 1000000001, 1, 0, -1, -1500, math.MinInt64, math.MaxInt64} {
				checkNoTree(t, changed(tree, i, func(c *impl.Class) { c.Burst = wrong }), impl.TrRate)
			}
		}
	}
}

func TestSums(t *testing.T) {
	for _, tree := range shapes() {
		for i := range tree {
			children := tree[i].Rate - wantSpares(tree)[i]
			if children == 0 {
				continue
			}
			// Just what the children have, and one less; what is above has the more to spare.
			just := changed(tree, i, func(c *impl.Class) { c.Rate = children })
			checkTreePromise(t, just)
			checkSpare(t, just, int64(i), 0)
			checkNoTree(t, changed(tree, i, func(c *impl.Class) { c.Rate = children - 1 }), impl.TrSum)
		}
	}
}

func TestSumOfTheLastChild(t *testing.T) {
	tree := starOf(30)
	spare := wantSpares(tree)[0]
	for i := 1; i < 30; i++ {
		checkTreePromise(t, changed(tree, i, func(c *impl.Class) { c.Rate += spare }))
		checkNoTree(t, changed(tree, i, func(c *impl.Class) { c.Rate += spare + 1 }), impl.TrSum)
	}
}

func TestSumOfGreatestRates(t *testing.T) {
	greatest := starOf(30)
	for i := range greatest {
		greatest[i].Rate, greatest[i].Ceil = impl.MaxRate, impl.MaxRate
	}
	checkTreePromise(t, greatest[:1])
	checkTreePromise(t, greatest[:2])
	checkSpare(t, greatest[:1], 0, impl.MaxRate)
	checkSpare(t, greatest[:2], 0, 0)
	for n := 3; n <= 30; n++ {
		checkNoTree(t, greatest[:n], impl.TrSum)
	}
	// A child's Rate that is within all Ceils, but more than its parent is assured of.
	small := []impl.Class{lone(5, 10, 1500), {Parent: 0, Rate: 6, Ceil: 10, Burst: 1500}}
	checkNoTree(t, small, impl.TrSum)
	// What is below a child does not count once more.
	deep := []impl.Class{lone(5, 10, 1500), {Parent: 0, Rate: 5, Ceil: 10, Burst: 1500}, {Parent: 1, Rate: 5, Ceil: 10, Burst: 1500}}
	checkTreePromise(t, deep)
}

// A fault is done to one class of a star of six and answered by its code.
type fault struct {
	code int64
	do   func(c *impl.Class)
}

func faults() []fault {
	return []fault{
		{impl.TrParent, func(c *impl.Class) { c.Parent = -2 }},
		{impl.TrParent, func(c *impl.Class) { c.Parent = 6 }},
		{impl.TrRate, func(c *impl.Class) { c.Rate = -1 }},
		{impl.TrRate, func(c *impl.Class) { c.Rate = c.Ceil + 1 }},
		{impl.TrRate, func(c *impl.Class) { c.Ceil = -1 }},
		{impl.TrRate, func(c *impl.Class) { c.Ceil = impl.MaxRate + 1 }},
		{impl.TrRate, func(c *impl.Class) { c.Burst = 1499 }},
		{impl.TrRate, func(c *impl.Class) { c.Burst = 1000000001 }},
	}
}

// Of two faults that of the lower number comes first; at one number TrParent does.
func firstCode(a fault, i int, b fault, k int) int64 {
	if i < k {
		return a.code
	}
	if k < i {
		return b.code
	}
	return min(a.code, b.code)
}

func TestWhichCodeComesFirst(t *testing.T) {
	tree := starOf(6)
	for _, a := range faults() {
		for i := range tree {
			one := changed(tree, i, a.do)
			checkNoTree(t, one, a.code)
			for _, b := range faults() {
				for k := range tree {
					checkNoTree(t, changed(one, k, b.do), firstCode(a, i, b, k))
				}
			}
		}
	}
}

func TestSumComesLast(t *testing.T) {
	// The children of 0 have one more than it; those of 1 too.
	tree := forkOf(6)
	spares := wantSpares(tree)
	tree[0].Rate -= spares[0] + 1
	checkNoTree(t, tree, impl.TrSum)
	tree[1].Rate -= spares[1] + 1
	tree[0].Rate -= spares[1] + 1
	checkNoTree(t, tree, impl.TrSum)
	for _, a := range faults() {
		for i := range tree {
			checkNoTree(t, changed(tree, i, a.do), a.code)
		}
	}
}

// A class that has both faults, and a sum that is too great because of one of them.
func TestCodesByHand(t *testing.T) {
	tree := starOf(4)
	tree[1].Rate = -1
	tree[2].Parent = 2
	checkNoTree(t, tree, impl.TrRate)
	tree[1].Parent = 1
	checkNoTree(t, tree, impl.TrParent)
	tree[1].Rate = 10
	checkNoTree(t, tree, impl.TrParent)
	tree[1].Parent = 0
	checkNoTree(t, tree, impl.TrParent)
	tree[2].Parent = 0
	tree[3].Rate = tree[0].Rate
	checkNoTree(t, tree, impl.TrSum)
	tree[3].Burst = 0
	checkNoTree(t, tree, impl.TrRate)
	tree[0].Parent = 0
	checkNoTree(t, tree, impl.TrParent)
}

func TestNoSuchClass(t *testing.T) {
	for _, tree := range shapes() {
		n := int64(len(tree))
		for _, i := range []int64{-1, -2, -30, n, n + 1, 1 << 32, 1 << 62, math.MinInt64, math.MaxInt64} {
			checkNoClass(t, tree, i)
		}
		checkPathLeadsUp(t, tree, 0)
		checkPathLeadsUp(t, tree, n-1)
	}
}

// At every pair of edges, in a class that is alone and in one below another.
func TestTreesAtEdges(t *testing.T) {
	list := append(edges(), 1499, 1500, 1501)
	for _, x := range list {
		for _, y := range list {
			checkTree(t, []impl.Class{lone(x, y, 1500)})
			checkTree(t, []impl.Class{{Parent: x, Rate: 1, Ceil: 1, Burst: y}})
			above := lone(impl.MaxRate-1, impl.MaxRate-1, 1500)
			checkTree(t, []impl.Class{above, {Parent: 0, Rate: x, Ceil: y, Burst: 1500}})
			checkTree(t, []impl.Class{above, {Parent: x, Rate: y, Ceil: impl.MaxRate - 1, Burst: 1500}})
			checkTree(t, []impl.Class{lone(x, impl.MaxRate, 1500), {Parent: 0, Rate: y, Ceil: impl.MaxRate, Burst: 1500}})
		}
		for _, tree := range [][]impl.Class{chainOf(3), starOf(3)} {
			checkPath(t, tree, x, wantPath(tree, x)...)
			checkUnder(t, tree, x, wantUnder(tree, x)...)
			checkSpare(t, tree, x, wantSpare(tree, x))
		}
	}
}

// Trees whose numbers are changed a little: right ones and each kind of wrong ones are among them.
func TestMixedTrees(t *testing.T) {
	state := uint64(6)
	seen := map[int64]int{}
	for range 20000 {
		tree := anyTree(&state, 1+int(mixed(&state)%31))
		for range mixed(&state) % 3 {
			c := &tree[mixed(&state)%int64(len(tree))]
			switch mixed(&state) % 4 {
			case 0:
				c.Parent += mixed(&state)%5 - 2
			case 1:
				c.Rate += mixed(&state)%41 - 20
			case 2:
				c.Ceil += mixed(&state)%31 - 15
			case 3:
				c.Burst += mixed(&state)%401 - 200
			}
		}
		checkTree(t, tree)
		seen[wantTreeOk(tree)]++
	}
	for code := range int64(5) {
		if seen[code] < 100 {
			t.Fatal("too few of a code were met:", seen)
		}
	}
}

// treeWithRoom has room behind the list: whoever wrote there would be seen.
func treeWithRoom(tree []impl.Class) ([]impl.Class, []impl.Class) {
	whole := slices.Clone(tree)
	for range 4 {
		whole = append(whole, impl.Class{Parent: 77, Rate: 78, Ceil: 79, Burst: 80})
	}
	return whole[:len(tree):len(whole)], whole
}

// checkList spoils an answer, and wants the next one to be as the first was.
func checkList(t *testing.T, name string, answer func() []int64) {
	t.Helper()
	first := answer()
	want := slices.Clone(first)
	second := answer()
	for i := range first {
		first[i] = -99
	}
	_ = append(first, -98)
	if !slices.Equal(second, want) || !slices.Equal(answer(), want) {
		t.Fatalf("%s: %v is %v when another answer is written into", name, want, second)
	}
}

func checkTreeMemory(t *testing.T, given []impl.Class) {
	t.Helper()
	tree, whole := treeWithRoom(given)
	before := slices.Clone(whole)
	impl.TreeOk(tree)
	checkList(t, "Leaves", func() []int64 { return impl.Leaves(tree) })
	for i := int64(-1); i <= int64(len(tree)); i++ {
		checkList(t, "Path", func() []int64 { return impl.Path(tree, i) })
		checkList(t, "Under", func() []int64 { return impl.Under(tree, i) })
		impl.Spare(tree, i)
	}
	if !slices.Equal(whole, before) {
		t.Fatalf("%v was written into: %v", before, whole)
	}
}

func TestTreeMemory(t *testing.T) {
	for _, tree := range shapes() {
		checkTreeMemory(t, tree)
		checkTreeMemory(t, changed(tree, len(tree)-1, func(c *impl.Class) { c.Burst = 0 }))
	}
	checkTreeMemory(t, nil)
	checkTreeMemory(t, starOf(31))
}

// What is kept of one tree must not be told of another one in the same memory.
func TestAnswersFollowTheTree(t *testing.T) {
	tree := chainOf(4)
	checkPath(t, tree, 3, 3, 2, 1, 0)
	path := impl.Path(tree, 3)
	under := impl.Under(tree, 1)
	tree[3].Parent = 0
	tree[0].Rate += 100
	checkTree(t, tree)
	checkPath(t, tree, 3, 3, 0)
	checkUnder(t, tree, 1, 1, 2)
	if !slices.Equal(path, []int64{3, 2, 1, 0}) || !slices.Equal(under, []int64{1, 2, 3}) {
		t.Fatal("an answer changed with the tree:", path, under)
	}
}
