package tests

import (
	"math"
	"math/big"
	"testing"

	"loop.example/g00147/impl"
)

const (
	leastFloat  = math.SmallestNonzeroFloat64
	leastNormal = 0x1p-1022
	mostFloat   = math.MaxFloat64
	justBelow1  = 1 - 0x1p-53
	justAbove1  = 1 + 0x1p-52
)

// minusNought is a function, as -0.0 in Go's text is the nought without a minus.
func minusNought() float64 { return math.Copysign(0, -1) }

func infinity() float64 { return math.Inf(1) }

// floatEdges are readings around all bounds that chapter 2 and floats have.
func floatEdges() []float64 {
	list := []float64{math.NaN(), math.Float64frombits(0xfff0000000000001)}
	without := []float64{
		0, leastFloat, 2 * leastFloat, leastNormal - leastFloat, leastNormal, 0.25, 0.5, justBelow1, 1, justAbove1,
		1.5, 2, 3, 10, 1e6 / 3, 1 << 52, 1<<53 - 1, 1 << 53, 1 << 63, mostFloat / 2, mostFloat, infinity(),
		impl.MaxRate - 1, math.Nextafter(impl.MaxRate, 0), impl.MaxRate, math.Nextafter(impl.MaxRate, 2e12), impl.MaxRate + 1,
	}
	for _, x := range without {
		list = append(list, x, -x)
	}
	return list
}

// mixedFloat gives readings without an order to them, of every size.
func mixedFloat(state *uint64) float64 {
	*state = *state*6364136223846793005 + 1442695040888963407
	x := math.Float64frombits(*state ^ *state>>29)
	if *state>>62 == 0 {
		return math.Mod(x, 1e13)
	}
	return x
}

// same holds a nought's sign against the other's, and takes all NaNs for one.
func same(a float64, b float64) bool {
	if math.IsNaN(a) || math.IsNaN(b) {
		return math.IsNaN(a) && math.IsNaN(b)
	}
	return math.Float64bits(a) == math.Float64bits(b)
}

func isFinite(x float64) bool { return !math.IsNaN(x) && !math.IsInf(x, 0) }

// rounded is an exact result, rounded once; plain is asked where there is none:
// for the sign of a nought, and for infinities.
func rounded(exact func(z *big.Rat, x *big.Rat, y *big.Rat) *big.Rat, x float64, y float64, plain float64) float64 {
	if !isFinite(x) || !isFinite(y) {
		return plain
	}
	result := exact(new(big.Rat), new(big.Rat).SetFloat64(x), new(big.Rat).SetFloat64(y))
	if result.Sign() == 0 {
		return plain
	}
	f, _ := result.Float64()
	return f
}

func wantToRate(x float64) (int64, bool) {
	if !isFinite(x) {
		return 0, false
	}
	exact := new(big.Rat).SetFloat64(x)
	if exact.Sign() < 0 || exact.Cmp(big.NewRat(1e12, 1)) > 0 {
		return 0, false
	}
	return new(big.Int).Div(exact.Num(), exact.Denom()).Int64(), true
}

func wantSmooth(old float64, x float64, part float64) float64 {
	switch {
	case math.IsNaN(old):
		return x
	case math.IsNaN(x) || math.IsNaN(part) || part < 0 || part > 1:
		return old
	}
	difference := rounded((*big.Rat).Sub, x, old, x-old)
	product := rounded((*big.Rat).Mul, part, difference, part*difference)
	return rounded((*big.Rat).Add, old, product, old+product)
}

func wantRatio(a float64, b float64) float64 {
	if b == 0 || math.IsInf(b, 0) {
		if math.IsNaN(a) || b == 0 && a == 0 || b != 0 && math.IsInf(a, 0) {
			return 0
		}
		return a / b
	}
	if math.IsNaN(a) || math.IsNaN(b) {
		return 0
	}
	return rounded((*big.Rat).Quo, a, b, a/b)
}

func checkToRate(t *testing.T, x float64, want int64, wantOk bool) {
	t.Helper()
	if rate, ok := impl.ToRate(x); rate != want || ok != wantOk {
		t.Fatalf("ToRate(%v) = %d, %v, want %d, %v", x, rate, ok, want, wantOk)
	}
}

func checkSmooth(t *testing.T, old float64, x float64, part float64, want float64) {
	t.Helper()
	if y := impl.Smooth(old, x, part); !same(y, want) {
		t.Fatalf("Smooth(%v, %v, %v) = %v, want %v", old, x, part, y, want)
	}
}

func checkLeastMost(t *testing.T, a float64, b float64, wantLeast float64, wantMost float64) {
	t.Helper()
	if y := impl.Least(a, b); !same(y, wantLeast) {
		t.Fatalf("Least(%v, %v) = %v, want %v", a, b, y, wantLeast)
	}
	if y := impl.Most(a, b); !same(y, wantMost) {
		t.Fatalf("Most(%v, %v) = %v, want %v", a, b, y, wantMost)
	}
}

func checkRatio(t *testing.T, a float64, b float64, want float64) {
	t.Helper()
	if y := impl.Ratio(a, b); !same(y, want) {
		t.Fatalf("Ratio(%v, %v) = %v, want %v", a, b, y, want)
	}
}

func TestToRate(t *testing.T) {
	checkToRate(t, 7, 7, true)
	checkToRate(t, 7.25, 7, true)
	checkToRate(t, 7.5, 7, true)
	checkToRate(t, 8.5, 8, true)
	checkToRate(t, 7.999999999999999, 7, true)
	checkToRate(t, 999999.75, 999999, true)
	checkToRate(t, 123456789012.5, 123456789012, true)
}

func TestToRateAtBounds(t *testing.T) {
	checkToRate(t, 0, 0, true)
	checkToRate(t, minusNought(), 0, true)
	checkToRate(t, leastFloat, 0, true)
	checkToRate(t, justBelow1, 0, true)
	checkToRate(t, 1, 1, true)
	checkToRate(t, justAbove1, 1, true)
	checkToRate(t, impl.MaxRate-1, impl.MaxRate-1, true)
	checkToRate(t, impl.MaxRate-0.5, impl.MaxRate-1, true)
	checkToRate(t, math.Nextafter(impl.MaxRate, 0), impl.MaxRate-1, true)
	checkToRate(t, impl.MaxRate, impl.MaxRate, true)
}

func TestToRateWrong(t *testing.T) {
	checkToRate(t, math.NaN(), 0, false)
	checkToRate(t, -leastFloat, 0, false)
	checkToRate(t, -0.5, 0, false)
	checkToRate(t, -1, 0, false)
	checkToRate(t, -impl.MaxRate, 0, false)
	checkToRate(t, -mostFloat, 0, false)
	checkToRate(t, -infinity(), 0, false)
	checkToRate(t, math.Nextafter(impl.MaxRate, 2e12), 0, false)
	checkToRate(t, impl.MaxRate+0.5, 0, false)
	checkToRate(t, impl.MaxRate+1, 0, false)
	checkToRate(t, 1<<63, 0, false)
	checkToRate(t, mostFloat, 0, false)
	checkToRate(t, infinity(), 0, false)
}

func TestToRateAtEdgesAndMixed(t *testing.T) {
	for _, x := range floatEdges() {
		want, ok := wantToRate(x)
		checkToRate(t, x, want, ok)
	}
	state := uint64(3)
	for range 20000 {
		x := mixedFloat(&state)
		want, ok := wantToRate(x)
		checkToRate(t, x, want, ok)
	}
}

func TestSmooth(t *testing.T) {
	checkSmooth(t, 10, 20, 0.25, 12.5)
	checkSmooth(t, 20, 10, 0.25, 17.5)
	checkSmooth(t, -10, 20, 0.125, -6.25)
	checkSmooth(t, 10, 20, 1, 20)
	checkSmooth(t, 10, 20, 0, 10)
	checkSmooth(t, 10, 10, 0.75, 10)
	checkSmooth(t, 10, 20, justBelow1, 20) // 10 and 9.999999999999998: the even one of two
	checkSmooth(t, 0.1, 0.7, 0.3, 0.28)    // 0.27999999999999997 if product and sum were rounded at once
	checkSmooth(t, 4.3, 0.6, 0.9, 0.9700000000000002)
	checkSmooth(t, 1e16, 1, 1, 0) // the difference is rounded to -1e16 already
}

// Rounded only once, the product and the sum of these come to another reading.
func TestSmoothRoundsEachOperation(t *testing.T) {
	unlike := 0
	state := uint64(4)
	for range 20000 {
		old, x, part := float64(mixed(&state)%1000), float64(mixed(&state)%1000), float64(mixed(&state)%1000)/1000
		want := wantSmooth(old, x, part)
		if want != math.FMA(part, x-old, old) {
			unlike++
		}
		checkSmooth(t, old, x, part, want)
	}
	if unlike < 1000 {
		t.Fatal("the readings are too much alike:", unlike)
	}
}

func TestSmoothByNothing(t *testing.T) {
	for _, old := range floatEdges() {
		for _, x := range floatEdges() {
			if !math.IsNaN(old) && isFinite(x-old) && impl.Smooth(old, x, 0) != old {
				t.Fatal(old, x, impl.Smooth(old, x, 0))
			}
		}
	}
}

func TestSmoothByAHalf(t *testing.T) {
	for old := int64(-60); old <= 60; old++ {
		for x := int64(-60); x <= 60; x++ {
			checkSmooth(t, float64(old), float64(x), 0.5, float64(old+x)/2)
		}
	}
	state := uint64(5)
	for range 20000 {
		old, x := mixed(&state)%(1<<51), mixed(&state)%(1<<51)
		checkSmooth(t, float64(old), float64(-x), 0.5, float64(old-x)/2)
		checkSmooth(t, float64(old), float64(x), 0.5, float64(old+x)/2)
	}
}

func TestSmoothOfNoughts(t *testing.T) {
	minus := minusNought()
	checkSmooth(t, 0, 0, 0.5, 0)
	checkSmooth(t, minus, minus, 0.5, 0) // the difference is 0 without a minus
	checkSmooth(t, 0, minus, 0.5, 0)
	checkSmooth(t, minus, 0, 0.5, 0)
	checkSmooth(t, minus, 0, 1, 0)
	checkSmooth(t, 0, minus, 1, 0)
	checkSmooth(t, minus, minus, 0, 0)
	checkSmooth(t, minus, -1, 0, minus) // 0 times a difference below 0 has a minus
	checkSmooth(t, minus, 1, 0, 0)
	checkSmooth(t, minus, 1, minus, minus)
	checkSmooth(t, 5, 7, minus, 5) // a part of 0 with a minus is from 0 to 1
	checkSmooth(t, 1, 0, 1, 0)
	checkSmooth(t, 1, minus, 1, 0)
}

func TestSmoothOfLeastAndGreatest(t *testing.T) {
	minus := minusNought()
	checkSmooth(t, 0, leastFloat, 1, leastFloat)
	checkSmooth(t, 0, leastFloat, 0.5, 0) // of two the even one
	checkSmooth(t, 0, 3*leastFloat, 0.5, 2*leastFloat)
	checkSmooth(t, minus, -leastFloat, 0.5, minus)
	checkSmooth(t, 0, -leastFloat, 0.5, 0)
	checkSmooth(t, 7, 1e300, leastFloat, 7)
	checkSmooth(t, mostFloat, mostFloat, 1, mostFloat)
	checkSmooth(t, 0, mostFloat, 1, mostFloat)
	checkSmooth(t, mostFloat, 0, 0.5, mostFloat/2)
	checkSmooth(t, -mostFloat, mostFloat, 0.5, infinity())
	checkSmooth(t, mostFloat, -mostFloat, 0.5, -infinity())
	checkSmooth(t, -mostFloat, mostFloat, 0, math.NaN())
}

func TestSmoothOfInfinities(t *testing.T) {
	inf, nan := infinity(), math.NaN()
	checkSmooth(t, 3, inf, 0.5, inf)
	checkSmooth(t, 3, -inf, 0.5, -inf)
	checkSmooth(t, inf, 3, 0.5, nan)  // the sum of unlike infinities
	checkSmooth(t, -inf, 3, 0.5, nan) // likewise
	checkSmooth(t, inf, inf, 0.5, nan)
	checkSmooth(t, -inf, -inf, 0.5, nan)
	checkSmooth(t, inf, -inf, 0.5, nan)
	checkSmooth(t, -inf, inf, 1, nan)
	checkSmooth(t, 3, inf, 0, nan) // 0 times an infinity
	checkSmooth(t, inf, 3, 0, nan)
	checkSmooth(t, 3, inf, leastFloat, inf)
}

func TestSmoothOfNaN(t *testing.T) {
	nan, inf := math.NaN(), infinity()
	for _, part := range []float64{0, 0.5, 1, -1, 2, inf, -inf, nan} {
		checkSmooth(t, nan, 3, part, 3)
		checkSmooth(t, 3, nan, part, 3)
		checkSmooth(t, nan, minusNought(), part, minusNought())
		checkSmooth(t, minusNought(), nan, part, minusNought())
		checkSmooth(t, nan, -inf, part, -inf)
		checkSmooth(t, -inf, nan, part, -inf)
		checkSmooth(t, nan, nan, part, nan)
	}
}

func TestSmoothByWrongParts(t *testing.T) {
	parts := []float64{-leastFloat, -0.5, -1, justAbove1, 1.5, 2, mostFloat, -mostFloat, infinity(), -infinity(), math.NaN()}
	for _, part := range parts {
		checkSmooth(t, 3, 4, part, 3)
		checkSmooth(t, minusNought(), 4, part, minusNought())
		checkSmooth(t, infinity(), 4, part, infinity())
		checkSmooth(t, 3, infinity(), part, 3)
	}
}

func TestSmoothAtEdgesAndMixed(t *testing.T) {
	for _, old := range floatEdges() {
		for _, x := range floatEdges() {
			for _, part := range floatEdges() {
				checkSmooth(t, old, x, part, wantSmooth(old, x, part))
			}
		}
	}
	state := uint64(6)
	for range 20000 {
		old, x, part := mixedFloat(&state), mixedFloat(&state), math.Abs(math.Mod(mixedFloat(&state), 1))
		checkSmooth(t, old, x, part, wantSmooth(old, x, part))
	}
}

func TestLeastAndMost(t *testing.T) {
	inf, minus := infinity(), minusNought()
	checkLeastMost(t, 2, 3, 2, 3)
	checkLeastMost(t, 3, 2, 2, 3)
	checkLeastMost(t, -3, 2, -3, 2)
	checkLeastMost(t, -2, -3, -3, -2)
	checkLeastMost(t, 1.25, 1.25, 1.25, 1.25)
	checkLeastMost(t, 1, justAbove1, 1, justAbove1)
	checkLeastMost(t, -inf, inf, -inf, inf)
	checkLeastMost(t, inf, mostFloat, mostFloat, inf)
	checkLeastMost(t, -mostFloat, -inf, -inf, -mostFloat)
	checkLeastMost(t, inf, inf, inf, inf)
	checkLeastMost(t, 0, minus, minus, 0)
	checkLeastMost(t, minus, 0, minus, 0)
	checkLeastMost(t, 0, 0, 0, 0)
	checkLeastMost(t, minus, minus, minus, minus)
	checkLeastMost(t, minus, leastFloat, minus, leastFloat)
	checkLeastMost(t, 0, -leastFloat, -leastFloat, 0)
}

func TestLeastAndMostOfNaN(t *testing.T) {
	nan := math.NaN()
	for _, x := range floatEdges() {
		checkLeastMost(t, nan, x, x, x)
		checkLeastMost(t, x, nan, x, x)
	}
	checkLeastMost(t, nan, nan, nan, nan)
}

// The two are told, each once, in their order, however they are handed in.
func TestLeastAndMostAreTheseTwo(t *testing.T) {
	for _, a := range floatEdges() {
		for _, b := range floatEdges() {
			if math.IsNaN(a) || math.IsNaN(b) {
				continue
			}
			if a < b || a == b && math.Signbit(a) {
				checkLeastMost(t, a, b, a, b)
				checkLeastMost(t, b, a, a, b)
			} else {
				checkLeastMost(t, a, b, b, a)
				checkLeastMost(t, b, a, b, a)
			}
		}
	}
}

func TestRatio(t *testing.T) {
	checkRatio(t, 6, 4, 1.5)
	checkRatio(t, -6, 4, -1.5)
	checkRatio(t, 1, 3, 0.3333333333333333)
	checkRatio(t, 2, -3, -0.6666666666666666)
	checkRatio(t, 6, 1, 6)
	checkRatio(t, mostFloat, 0.5, infinity())
	checkRatio(t, leastFloat, 2, 0)
	checkRatio(t, 3*leastFloat, 2, 2*leastFloat)
	checkRatio(t, -leastFloat, 2, minusNought())
}

func TestRatioOfAndByNoughts(t *testing.T) {
	inf, minus := infinity(), minusNought()
	checkRatio(t, 0, 0, 0)
	checkRatio(t, minus, 0, 0)
	checkRatio(t, 0, minus, 0)
	checkRatio(t, minus, minus, 0)
	checkRatio(t, 0, 5, 0)
	checkRatio(t, minus, 5, minus)
	checkRatio(t, 0, -5, minus)
	checkRatio(t, minus, -5, 0)
	checkRatio(t, 5, 0, inf)
	checkRatio(t, -5, 0, -inf)
	checkRatio(t, 5, minus, -inf)
	checkRatio(t, -5, minus, inf)
	checkRatio(t, leastFloat, 0, inf)
	checkRatio(t, inf, 0, inf)
	checkRatio(t, inf, minus, -inf)
	checkRatio(t, -inf, 0, -inf)
}

func TestRatioOfAndByInfinities(t *testing.T) {
	inf, minus := infinity(), minusNought()
	checkRatio(t, inf, inf, 0)
	checkRatio(t, -inf, inf, 0)
	checkRatio(t, inf, -inf, 0)
	checkRatio(t, -inf, -inf, 0)
	checkRatio(t, 5, inf, 0)
	checkRatio(t, -5, inf, minus)
	checkRatio(t, 5, -inf, minus)
	checkRatio(t, 0, -inf, minus)
	checkRatio(t, inf, 5, inf)
	checkRatio(t, inf, -5, -inf)
}

func TestRatioOfAndByNaN(t *testing.T) {
	nan := math.NaN()
	for _, x := range floatEdges() {
		checkRatio(t, nan, x, 0)
		checkRatio(t, x, nan, 0)
	}
}

func TestRatioAtEdgesAndMixed(t *testing.T) {
	for _, a := range floatEdges() {
		for _, b := range floatEdges() {
			checkRatio(t, a, b, wantRatio(a, b))
		}
	}
	state := uint64(7)
	for range 20000 {
		a, b := mixedFloat(&state), mixedFloat(&state)
		checkRatio(t, a, b, wantRatio(a, b))
	}
}
