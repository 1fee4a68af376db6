package tests

import (
	"math"
	"math/big"
	"testing"

	"loop.example/g00147/impl"
)

const greatestRoot = 2097151 // 2^21 - 1: the cube of 2^21 is 2^63

// edges are numbers around all bounds that chapter 1 and its words have.
func edges() []int64 {
	around := []int64{
		0, 7, 1 << 16, 1 << 31, 1 << 32, 3037000500, 1 << 33, 1 << 62,
		impl.MaxSegment, impl.MaxWindow, impl.MaxRate, impl.MaxTime,
		0x5555555555555555, 0x7fffffff00000000, 0x7fffffff80000000,
	}
	list := []int64{math.MinInt64, math.MinInt64 + 1, math.MaxInt64 - 2, math.MaxInt64 - 1, math.MaxInt64}
	for _, x := range around {
		list = append(list, x-1, x, x+1, -x)
	}
	return list
}

// mixed gives numbers without an order to them, the same ones in every run.
func mixed(state *uint64) int64 {
	*state = *state*6364136223846793005 + 1442695040888963407
	x := *state ^ *state>>29
	return int64(x >> (1 + *state>>59))
}

func wantAdd(a int64, b int64) int64 {
	sum := new(big.Int).Add(big.NewInt(a), big.NewInt(b))
	if sum.IsInt64() {
		return sum.Int64()
	}
	if sum.Sign() < 0 {
		return math.MinInt64
	}
	return math.MaxInt64
}

func wantMulDiv(a int64, b int64, c int64) (int64, bool) {
	if a < 0 || b < 0 || c < 1 {
		return 0, false
	}
	quotient := new(big.Int).Mul(big.NewInt(a), big.NewInt(b))
	quotient.Quo(quotient, big.NewInt(c))
	if !quotient.IsInt64() {
		return 0, false
	}
	return quotient.Int64(), true
}

func wantBytes(rate int64, ns int64) int64 {
	if rate < 0 || rate > 1e12 || ns < 0 || ns > 1e15 {
		return -1
	}
	n, _ := wantMulDiv(rate, ns, 1e9)
	return n
}

func wantTimeFor(rate int64, n int64) int64 {
	switch {
	case rate < 0 || rate > 1e12 || n < 0 || n > 1e9:
		return -1
	case n == 0:
		return 0
	case rate == 0:
		return 1e15
	}
	ns := new(big.Int).Mul(big.NewInt(n), big.NewInt(1e9))
	ns.Add(ns, big.NewInt(rate-1))
	ns.Quo(ns, big.NewInt(rate))
	if ns.Cmp(big.NewInt(1e15)) > 0 {
		return 1e15
	}
	return ns.Int64()
}

func checkAdd(t *testing.T, a int64, b int64, want int64) {
	t.Helper()
	if sum := impl.Add(a, b); sum != want {
		t.Fatalf("Add(%d, %d) = %d, want %d", a, b, sum, want)
	}
}

func checkMulDiv(t *testing.T, a int64, b int64, c int64, want int64, wantOk bool) {
	t.Helper()
	if quotient, ok := impl.MulDiv(a, b, c); quotient != want || ok != wantOk {
		t.Fatalf("MulDiv(%d, %d, %d) = %d, %v, want %d, %v", a, b, c, quotient, ok, want, wantOk)
	}
}

func checkCubeRoot(t *testing.T, n int64, want int64) {
	t.Helper()
	if root := impl.CubeRoot(n); root != want {
		t.Fatalf("CubeRoot(%d) = %d, want %d", n, root, want)
	}
}

func checkBytes(t *testing.T, rate int64, ns int64, want int64) {
	t.Helper()
	if n := impl.Bytes(rate, ns); n != want {
		t.Fatalf("Bytes(%d, %d) = %d, want %d", rate, ns, n, want)
	}
}

func checkTimeFor(t *testing.T, rate int64, n int64, want int64) {
	t.Helper()
	if ns := impl.TimeFor(rate, n); ns != want {
		t.Fatalf("TimeFor(%d, %d) = %d, want %d", rate, n, ns, want)
	}
}

func TestLimits(t *testing.T) {
	limits := [4]int64{impl.MaxTime, impl.MaxRate, impl.MaxSegment, impl.MaxWindow}
	if limits != [4]int64{1000000000000000, 1000000000000, 1500, 1000000000} {
		t.Fatal(limits)
	}
}

func TestAdd(t *testing.T) {
	checkAdd(t, 2, 3, 5)
	checkAdd(t, 2, -3, -1)
	checkAdd(t, math.MaxInt64, 0, math.MaxInt64)
	checkAdd(t, math.MaxInt64-1, 1, math.MaxInt64)
	checkAdd(t, math.MaxInt64, 1, math.MaxInt64)
	checkAdd(t, 1, math.MaxInt64, math.MaxInt64)
	checkAdd(t, math.MaxInt64, math.MaxInt64, math.MaxInt64)
	checkAdd(t, math.MinInt64, 0, math.MinInt64)
	checkAdd(t, math.MinInt64+1, -1, math.MinInt64)
	checkAdd(t, math.MinInt64, -1, math.MinInt64)
	checkAdd(t, -1, math.MinInt64, math.MinInt64)
	checkAdd(t, math.MinInt64, math.MinInt64, math.MinInt64)
	checkAdd(t, math.MinInt64, math.MaxInt64, -1)
	checkAdd(t, math.MaxInt64, math.MinInt64, -1)
}

func TestAddAtEdges(t *testing.T) {
	for _, a := range edges() {
		for _, b := range edges() {
			checkAdd(t, a, b, wantAdd(a, b))
		}
	}
}

func TestMulDiv(t *testing.T) {
	checkMulDiv(t, 6, 7, 4, 10, true)
	checkMulDiv(t, 0, 7, 4, 0, true)
	checkMulDiv(t, 7, 0, 4, 0, true)
	checkMulDiv(t, 0, math.MaxInt64, 1, 0, true)
	checkMulDiv(t, 1, 1, math.MaxInt64, 0, true)
	checkMulDiv(t, math.MaxInt64, 1, 1, math.MaxInt64, true)
	checkMulDiv(t, math.MaxInt64, math.MaxInt64, math.MaxInt64, math.MaxInt64, true)
}

func TestMulDivJustFits(t *testing.T) {
	const most = math.MaxInt64
	checkMulDiv(t, most-1, most, most-1, most, true)   // nothing is left over
	checkMulDiv(t, most-1, most-1, most-2, most, true) // 1 is left over
	checkMulDiv(t, most/2, 2, 1, most-1, true)
	checkMulDiv(t, 1<<62, 4, 2, 0, false)
	checkMulDiv(t, 1<<62, 2, 1, 0, false)
	checkMulDiv(t, most, most, most-1, 0, false) // 2^63, and 1 is left over
	checkMulDiv(t, most, most-1, most-2, 0, false)
	checkMulDiv(t, most, most, 1, 0, false)
	checkMulDiv(t, most, 3, 2, 0, false)
}

func TestMulDivWrong(t *testing.T) {
	checkMulDiv(t, -1, 7, 4, 0, false)
	checkMulDiv(t, 6, -1, 4, 0, false)
	checkMulDiv(t, -6, -7, 4, 0, false)
	checkMulDiv(t, 6, 7, 0, 0, false)
	checkMulDiv(t, 0, 0, 0, 0, false)
	checkMulDiv(t, 6, 7, -1, 0, false)
	checkMulDiv(t, math.MinInt64, math.MinInt64, math.MinInt64, 0, false)
}

func TestMulDivAtEdges(t *testing.T) {
	for _, a := range edges() {
		for _, b := range edges() {
			for _, c := range edges() {
				want, ok := wantMulDiv(a, b, c)
				checkMulDiv(t, a, b, c, want, ok)
			}
		}
	}
}

func TestMulDivMixed(t *testing.T) {
	state := uint64(1)
	fitting := 0
	for range 100000 {
		a, b, c := mixed(&state), mixed(&state), mixed(&state)
		want, ok := wantMulDiv(a, b, c)
		checkMulDiv(t, a, b, c, want, ok)
		if ok && want > 0 {
			fitting++
		}
	}
	if fitting < 10000 || fitting > 90000 {
		t.Fatal("the numbers are too much alike:", fitting)
	}
}

func TestCubeRootOfSmall(t *testing.T) {
	want := []int64{0, 1, 1, 1, 1, 1, 1, 1, 2}
	for n, root := range want {
		checkCubeRoot(t, int64(n), root)
	}
}

func TestCubeRootAtEveryCube(t *testing.T) {
	for root := int64(1); root <= greatestRoot; root++ {
		cube := root * root * root
		checkCubeRoot(t, cube-1, root-1)
		checkCubeRoot(t, cube, root)
		checkCubeRoot(t, cube+1, root)
	}
	checkCubeRoot(t, math.MaxInt64-1, greatestRoot)
	checkCubeRoot(t, math.MaxInt64, greatestRoot)
}

func TestCubeRootWrong(t *testing.T) {
	checkCubeRoot(t, -1, -1)
	checkCubeRoot(t, -8, -1)
	checkCubeRoot(t, math.MinInt64, -1)
}

func TestBytes(t *testing.T) {
	checkBytes(t, 1000, 1500000000, 1500)
	checkBytes(t, 3, 333333333, 0)
	checkBytes(t, 3, 333333334, 1)
	checkBytes(t, 0, 0, 0)
	checkBytes(t, 0, impl.MaxTime, 0)
	checkBytes(t, impl.MaxRate, 0, 0)
	checkBytes(t, 1, 999999999, 0)
	checkBytes(t, 1, 1000000000, 1)
	checkBytes(t, 1, impl.MaxTime, 1000000)
	checkBytes(t, impl.MaxRate, 1, 1000)
	checkBytes(t, impl.MaxRate, impl.MaxTime, 1000000000000000000)
	checkBytes(t, impl.MaxRate-1, impl.MaxTime, 999999999999000000)
	checkBytes(t, impl.MaxRate, impl.MaxTime-1, 999999999999999000)
}

func TestBytesWrong(t *testing.T) {
	checkBytes(t, -1, 5, -1)
	checkBytes(t, 5, -1, -1)
	checkBytes(t, impl.MaxRate+1, 5, -1)
	checkBytes(t, 5, impl.MaxTime+1, -1)
	checkBytes(t, impl.MaxRate+1, 0, -1)
	checkBytes(t, 0, impl.MaxTime+1, -1)
	checkBytes(t, math.MinInt64, math.MaxInt64, -1)
}

func TestTimeFor(t *testing.T) {
	checkTimeFor(t, 3, 1, 333333334)
	checkTimeFor(t, 3, 3, 1000000000)
	checkTimeFor(t, 1000, 1500, 1500000000)
	checkTimeFor(t, impl.MaxRate, 1, 1)
	checkTimeFor(t, impl.MaxRate, 1000, 1)
	checkTimeFor(t, impl.MaxRate, 1001, 2)
	checkTimeFor(t, impl.MaxRate, impl.MaxWindow, 1000000)
	checkTimeFor(t, impl.MaxRate-1, impl.MaxWindow, 1000001)
}

func TestTimeForOfNothing(t *testing.T) {
	checkTimeFor(t, 0, 0, 0)
	checkTimeFor(t, 3, 0, 0)
	checkTimeFor(t, impl.MaxRate, 0, 0)
	checkTimeFor(t, 0, 1, impl.MaxTime)
	checkTimeFor(t, 0, impl.MaxWindow, impl.MaxTime)
}

func TestTimeForAtMostMaxTime(t *testing.T) {
	checkTimeFor(t, 1, 999999, 999999000000000)
	checkTimeFor(t, 1, 1000000, impl.MaxTime)
	checkTimeFor(t, 1, 1000001, impl.MaxTime)
	checkTimeFor(t, 1, impl.MaxWindow, impl.MaxTime)
	checkTimeFor(t, 1001, impl.MaxWindow, 999000999001000)
	checkTimeFor(t, 1000, impl.MaxWindow-1, 999999999000000)
	checkTimeFor(t, 1000, impl.MaxWindow, impl.MaxTime)
	checkTimeFor(t, 999, impl.MaxWindow, impl.MaxTime)
}

func TestTimeForWrong(t *testing.T) {
	checkTimeFor(t, -1, 5, -1)
	checkTimeFor(t, 5, -1, -1)
	checkTimeFor(t, 0, -1, -1)
	checkTimeFor(t, -1, 0, -1)
	checkTimeFor(t, impl.MaxRate+1, 5, -1)
	checkTimeFor(t, impl.MaxRate+1, 0, -1)
	checkTimeFor(t, 5, impl.MaxWindow+1, -1)
	checkTimeFor(t, 0, impl.MaxWindow+1, -1)
	checkTimeFor(t, math.MaxInt64, math.MaxInt64, -1)
}

func TestTimesAtEdges(t *testing.T) {
	for _, rate := range edges() {
		for _, x := range edges() {
			checkBytes(t, rate, x, wantBytes(rate, x))
			checkTimeFor(t, rate, x, wantTimeFor(rate, x))
		}
	}
}

func TestTimesMixed(t *testing.T) {
	state := uint64(2)
	for range 100000 {
		rate, x := mixed(&state)%(impl.MaxRate+1), mixed(&state)
		ns, n := x%(impl.MaxTime+1), x%(impl.MaxWindow+1)
		checkBytes(t, rate, ns, wantBytes(rate, ns))
		checkTimeFor(t, rate, n, wantTimeFor(rate, n))
	}
}
