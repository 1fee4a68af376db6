package tests

import (
	"math"
	"math/big"
	"testing"

	"loop.example/g00147/impl"
)

const billion = 1000000000

func bucketOf(rate int64, burst int64, level int64, at int64) impl.Bucket {
	return impl.Bucket{Rate: rate, Burst: burst, Level: level, At: at}
}

func isOf(x int64, bound int64) bool { return x >= 0 && x <= bound }

func wantBucketOk(b impl.Bucket) bool {
	full := new(big.Int).Mul(big.NewInt(b.Burst), big.NewInt(1e9))
	return isOf(b.Rate, 1e12) && isOf(b.Burst, 1e9) && isOf(b.At, 1e15) &&
		b.Level >= 0 && big.NewInt(b.Level).Cmp(full) <= 0
}

func wantFull(rate int64, burst int64, at int64) (impl.Bucket, bool) {
	if !isOf(rate, 1e12) || !isOf(burst, 1e9) || !isOf(at, 1e15) {
		return impl.Bucket{}, false
	}
	return bucketOf(rate, burst, burst*billion, at), true
}

func wantFill(b impl.Bucket, now int64) impl.Bucket {
	if !wantBucketOk(b) || !isOf(now, 1e15) {
		return impl.Bucket{}
	}
	if now <= b.At {
		return b
	}
	level := new(big.Int).Mul(big.NewInt(b.Rate), big.NewInt(now-b.At))
	level.Add(level, big.NewInt(b.Level))
	full := new(big.Int).Mul(big.NewInt(b.Burst), big.NewInt(1e9))
	if level.Cmp(full) > 0 {
		level = full
	}
	return bucketOf(b.Rate, b.Burst, level.Int64(), now)
}

func wantTake(b impl.Bucket, now int64, n int64) (impl.Bucket, bool) {
	if !wantBucketOk(b) || !isOf(now, 1e15) || n < 1 || n > 1500 {
		return impl.Bucket{}, false
	}
	b = wantFill(b, now)
	if b.Level/billion < n {
		return b, false
	}
	return bucketOf(b.Rate, b.Burst, b.Level-n*billion, b.At), true
}

// wantWhen looks for the time by halves, by takings alone: it knows of no quotient.
func wantWhen(b impl.Bucket, n int64) int64 {
	if !wantBucketOk(b) || n < 1 || n > 1500 {
		return -1
	}
	early, late := b.At, int64(1e15)
	for early < late {
		middle := early + (late-early)/2
		if _, ok := wantTake(b, middle, n); ok {
			late = middle
		} else {
			early = middle + 1
		}
	}
	return early
}

func wantReset(b impl.Bucket, rate int64, burst int64, now int64) impl.Bucket {
	full, ok := wantFull(rate, burst, now)
	if !ok || !wantBucketOk(b) {
		return impl.Bucket{}
	}
	b = wantFill(b, now)
	return bucketOf(rate, burst, min(b.Level, full.Level), b.At)
}

func checkBucketOk(t *testing.T, b impl.Bucket, want bool) {
	t.Helper()
	if ok := impl.BucketOk(b); ok != want {
		t.Fatalf("BucketOk(%+v) = %v", b, ok)
	}
}

func checkFull(t *testing.T, rate int64, burst int64, at int64, want impl.Bucket, wantOk bool) {
	t.Helper()
	if b, ok := impl.Full(rate, burst, at); b != want || ok != wantOk {
		t.Fatalf("Full(%d, %d, %d) = %+v, %v, want %+v, %v", rate, burst, at, b, ok, want, wantOk)
	}
}

func checkFill(t *testing.T, b impl.Bucket, now int64, want impl.Bucket) {
	t.Helper()
	if filled := impl.Fill(b, now); filled != want {
		t.Fatalf("Fill(%+v, %d) = %+v, want %+v", b, now, filled, want)
	}
}

func checkTake(t *testing.T, b impl.Bucket, now int64, n int64, want impl.Bucket, wantOk bool) {
	t.Helper()
	if left, ok := impl.Take(b, now, n); left != want || ok != wantOk {
		t.Fatalf("Take(%+v, %d, %d) = %+v, %v, want %+v, %v", b, now, n, left, ok, want, wantOk)
	}
}

func checkWhen(t *testing.T, b impl.Bucket, n int64, want int64) {
	t.Helper()
	if at := impl.When(b, n); at != want {
		t.Fatalf("When(%+v, %d) = %d, want %d", b, n, at, want)
	}
}

func checkReset(t *testing.T, b impl.Bucket, rate int64, burst int64, now int64, want impl.Bucket) {
	t.Helper()
	if next := impl.Reset(b, rate, burst, now); next != want {
		t.Fatalf("Reset(%+v, %d, %d, %d) = %+v, want %+v", b, rate, burst, now, next, want)
	}
}

// checkBucket holds every function of the chapter against its words.
func checkBucket(t *testing.T, b impl.Bucket, now int64, n int64, rate int64, burst int64) {
	t.Helper()
	checkBucketOk(t, b, wantBucketOk(b))
	full, ok := wantFull(rate, burst, now)
	checkFull(t, rate, burst, now, full, ok)
	checkFill(t, b, now, wantFill(b, now))
	left, took := wantTake(b, now, n)
	checkTake(t, b, now, n, left, took)
	checkReset(t, b, rate, burst, now, wantReset(b, rate, burst, now))
}

// wrongBuckets have one number each that is out of its range.
func wrongBuckets() []impl.Bucket {
	return []impl.Bucket{
		bucketOf(-1, 10, 5, 100),
		bucketOf(impl.MaxRate+1, 10, 5, 100),
		bucketOf(math.MinInt64, 10, 5, 100),
		bucketOf(math.MaxInt64, 10, 5, 100),
		bucketOf(7, -1, 0, 100),
		bucketOf(7, impl.MaxWindow+1, 5, 100),
		bucketOf(7, 1<<55, 0, 100), // times 10^9 it wraps to 0
		bucketOf(7, 1<<55+1, 5, 100),
		bucketOf(7, math.MinInt64, 0, 100),
		bucketOf(7, math.MaxInt64, 5, 100),
		bucketOf(7, 10, -1, 100),
		bucketOf(7, 10, 10*billion+1, 100),
		bucketOf(7, 10, math.MinInt64, 100),
		bucketOf(7, 10, math.MaxInt64, 100),
		bucketOf(7, 0, 1, 100),
		bucketOf(7, impl.MaxWindow, impl.MaxWindow*billion+1, 100),
		bucketOf(7, 10, 5, -1),
		bucketOf(7, 10, 5, impl.MaxTime+1),
		bucketOf(7, 10, 5, math.MinInt64),
		bucketOf(7, 10, 5, math.MaxInt64),
	}
}

func noTimes() []int64 {
	return []int64{-1, impl.MaxTime + 1, math.MinInt64, math.MaxInt64}
}

func noSegments() []int64 {
	return []int64{0, -1, impl.MaxSegment + 1, math.MinInt64, math.MaxInt64, 1 << 55}
}

func TestBucketOk(t *testing.T) {
	for _, b := range []impl.Bucket{
		{},
		bucketOf(7, 10, 5, 100),
		bucketOf(0, 10, 5, 100),
		bucketOf(impl.MaxRate, 10, 5, 100),
		bucketOf(7, 0, 0, 100),
		bucketOf(7, 1, billion, 100),
		bucketOf(7, 10, 0, 100),
		bucketOf(7, 10, 10*billion, 100),
		bucketOf(7, 10, 5, 0),
		bucketOf(7, 10, 5, impl.MaxTime),
		bucketOf(impl.MaxRate, impl.MaxWindow, impl.MaxWindow*billion, impl.MaxTime),
	} {
		checkBucketOk(t, b, true)
	}
	for _, b := range wrongBuckets() {
		checkBucketOk(t, b, false)
	}
}

func TestFull(t *testing.T) {
	checkFull(t, 1000, 2000, 5, bucketOf(1000, 2000, 2000*billion, 5), true)
	checkFull(t, 0, 0, 0, impl.Bucket{}, true)
	checkFull(t, impl.MaxRate, impl.MaxWindow, impl.MaxTime,
		bucketOf(impl.MaxRate, impl.MaxWindow, 1000000000000000000, impl.MaxTime), true)
	for _, x := range edges() {
		for _, y := range []int64{0, 3, impl.MaxWindow} {
			b, ok := wantFull(x, y, 4)
			checkFull(t, x, y, 4, b, ok)
			b, ok = wantFull(y, x, 4)
			checkFull(t, y, x, 4, b, ok)
			b, ok = wantFull(y, y, x)
			checkFull(t, y, y, x, b, ok)
		}
	}
	checkFull(t, 1, 1<<55, 0, impl.Bucket{}, false)
}

func TestFill(t *testing.T) {
	b := bucketOf(7, 2, 100, 50)
	checkFill(t, b, 51, bucketOf(7, 2, 107, 51))
	checkFill(t, b, 60, bucketOf(7, 2, 170, 60))
	for _, now := range []int64{0, 49, 50} {
		checkFill(t, b, now, b)
	}
	checkFill(t, impl.Bucket{}, 0, impl.Bucket{})
	checkFill(t, impl.Bucket{}, 3, bucketOf(0, 0, 0, 3))
	checkFill(t, bucketOf(0, 2, 100, 50), impl.MaxTime, bucketOf(0, 2, 100, impl.MaxTime))
	checkFill(t, bucketOf(7, 0, 0, 50), 60, bucketOf(7, 0, 0, 60))
	full := bucketOf(7, 2, 2*billion, 50)
	checkFill(t, full, 51, bucketOf(7, 2, 2*billion, 51))
	checkFill(t, full, 49, full)
	last := bucketOf(7, 2, 100, impl.MaxTime)
	checkFill(t, last, impl.MaxTime, last)
	checkFill(t, last, impl.MaxTime-1, last)
}

func TestFillComesToFull(t *testing.T) {
	// One short of full, just full, and what comes past it.
	b := bucketOf(1, 1, billion-10, 50)
	checkFill(t, b, 59, bucketOf(1, 1, billion-1, 59))
	checkFill(t, b, 60, bucketOf(1, 1, billion, 60))
	checkFill(t, b, 61, bucketOf(1, 1, billion, 61))
	b = bucketOf(3, 1, billion-10, 50)
	checkFill(t, b, 53, bucketOf(3, 1, billion-1, 53))
	checkFill(t, b, 54, bucketOf(3, 1, billion, 54))
	// Full in just all the time that there is: 10^15 at 1000 comes to 10^18.
	b = bucketOf(1000, impl.MaxWindow, 0, 0)
	checkFill(t, b, impl.MaxTime-1, bucketOf(1000, impl.MaxWindow, 999999999999999000, impl.MaxTime-1))
	checkFill(t, b, impl.MaxTime, bucketOf(1000, impl.MaxWindow, 1000000000000000000, impl.MaxTime))
	b.Level = 1
	checkFill(t, b, impl.MaxTime, bucketOf(1000, impl.MaxWindow, 1000000000000000000, impl.MaxTime))
}

func TestFillPassesNoBits(t *testing.T) {
	const most = impl.MaxWindow * billion
	full := bucketOf(impl.MaxRate, impl.MaxWindow, most, impl.MaxTime)
	checkFill(t, bucketOf(impl.MaxRate, impl.MaxWindow, 0, 0), impl.MaxTime, full)
	checkFill(t, bucketOf(impl.MaxRate, impl.MaxWindow, most, 0), impl.MaxTime, full)
	checkFill(t, bucketOf(impl.MaxRate, 0, 0, 0), impl.MaxTime, bucketOf(impl.MaxRate, 0, 0, impl.MaxTime))
	// Products that wrap to a little above 0, or to below 0, if 64 bits are all there is.
	checkFill(t, bucketOf(1<<32, impl.MaxWindow, 9, 0), 1<<32, bucketOf(1<<32, impl.MaxWindow, most, 1<<32))
	checkFill(t, bucketOf(1<<32, impl.MaxWindow, 9, 0), 1<<31, bucketOf(1<<32, impl.MaxWindow, most, 1<<31))
	checkFill(t, bucketOf(1<<39, impl.MaxWindow, 9, 1), 1<<49+1, bucketOf(1<<39, impl.MaxWindow, most, 1<<49+1))
	// A product that still fits, which a sum with the level does not.
	checkFill(t, bucketOf(1<<31, impl.MaxWindow, most, 0), 1<<32-1, bucketOf(1<<31, impl.MaxWindow, most, 1<<32-1))
}

func TestFillRefuses(t *testing.T) {
	for _, b := range wrongBuckets() {
		for _, now := range []int64{0, 99, 100, 101, impl.MaxTime} {
			checkFill(t, b, now, impl.Bucket{})
		}
	}
	for _, now := range noTimes() {
		checkFill(t, bucketOf(7, 10, 5, 100), now, impl.Bucket{})
	}
}

func TestTake(t *testing.T) {
	b := bucketOf(7, 10, 3*billion, 50)
	checkTake(t, b, 50, 1, bucketOf(7, 10, 2*billion, 50), true)
	checkTake(t, b, 50, 3, bucketOf(7, 10, 0, 50), true)
	checkTake(t, b, 50, 4, b, false)
	checkTake(t, b, 60, 2, bucketOf(7, 10, billion+70, 60), true)
	checkTake(t, b, 60, 4, bucketOf(7, 10, 3*billion+70, 60), false)
	// What is not later fills nothing, and takes as ever.
	checkTake(t, b, 49, 2, bucketOf(7, 10, billion, 50), true)
	checkTake(t, b, 0, 4, b, false)
	b.Level--
	checkTake(t, b, 50, 3, b, false)
	checkTake(t, b, 51, 3, bucketOf(7, 10, 6, 51), true)
	checkTake(t, impl.Bucket{}, 0, 1, impl.Bucket{}, false)
	checkTake(t, impl.Bucket{}, 9, 1, bucketOf(0, 0, 0, 9), false)
}

func TestTakeGreatest(t *testing.T) {
	const segment = impl.MaxSegment * billion
	b := bucketOf(0, impl.MaxWindow, segment, impl.MaxTime)
	checkTake(t, b, impl.MaxTime, impl.MaxSegment, bucketOf(0, impl.MaxWindow, 0, impl.MaxTime), true)
	b.Level--
	checkTake(t, b, impl.MaxTime, impl.MaxSegment, b, false)
	b.Level += 2
	checkTake(t, b, impl.MaxTime, impl.MaxSegment, bucketOf(0, impl.MaxWindow, 1, impl.MaxTime), true)
	// A burst that just holds the segment, and one that never does.
	checkTake(t, bucketOf(impl.MaxRate, impl.MaxSegment, 0, 0), impl.MaxTime, impl.MaxSegment,
		bucketOf(impl.MaxRate, impl.MaxSegment, 0, impl.MaxTime), true)
	checkTake(t, bucketOf(impl.MaxRate, impl.MaxSegment-1, 0, 0), impl.MaxTime, impl.MaxSegment,
		bucketOf(impl.MaxRate, impl.MaxSegment-1, segment-billion, impl.MaxTime), false)
}

func TestTakeRefuses(t *testing.T) {
	for _, b := range wrongBuckets() {
		for _, now := range []int64{0, 99, 100, 101, impl.MaxTime} {
			checkTake(t, b, now, 1, impl.Bucket{}, false)
		}
	}
	b := bucketOf(7, 2000, 2000*billion, 100)
	for _, now := range noTimes() {
		checkTake(t, b, now, 1, impl.Bucket{}, false)
	}
	for _, n := range noSegments() {
		for _, now := range []int64{99, 100, 101} {
			checkTake(t, b, now, n, impl.Bucket{}, false)
		}
	}
}

func TestWhen(t *testing.T) {
	b := bucketOf(7, 10, 3*billion, 50)
	for _, n := range []int64{1, 2, 3} {
		checkWhen(t, b, n, 50)
	}
	checkWhen(t, b, 4, 50+142857143) // 10^9 / 7, rounded up
	b.Level = 4*billion - 7
	checkWhen(t, b, 4, 51)
	b.Level--
	checkWhen(t, b, 4, 52)
	b.Level = 4*billion - 1
	checkWhen(t, b, 4, 51)
	checkWhen(t, bucketOf(1, 1, 0, 0), 1, billion)
	checkWhen(t, bucketOf(impl.MaxRate, impl.MaxSegment, 0, 0), impl.MaxSegment, 2)
	checkWhen(t, bucketOf(impl.MaxRate, 1, 0, 7), 1, 8)
}

func TestWhenIsNever(t *testing.T) {
	checkWhen(t, impl.Bucket{}, 1, impl.MaxTime)
	checkWhen(t, bucketOf(0, 10, 3*billion, 50), 4, impl.MaxTime)
	checkWhen(t, bucketOf(0, 10, 3*billion, 50), 3, 50)
	checkWhen(t, bucketOf(impl.MaxRate, 10, 0, 50), 11, impl.MaxTime)
	checkWhen(t, bucketOf(impl.MaxRate, 10, 10*billion, 50), 11, impl.MaxTime)
	checkWhen(t, bucketOf(impl.MaxRate, 10, 10*billion, 50), 10, 50)
	checkWhen(t, bucketOf(impl.MaxRate, 0, 0, 50), 1, impl.MaxTime)
	checkWhen(t, bucketOf(impl.MaxRate, impl.MaxSegment-1, 0, 0), impl.MaxSegment, impl.MaxTime)
}

func TestWhenAtTheLastTime(t *testing.T) {
	// A wait of ten nanoseconds that ends one ahead of MaxTime, just at it, and past it.
	b := bucketOf(3, 10, billion-30, impl.MaxTime-11)
	checkWhen(t, b, 1, impl.MaxTime-1)
	b.At++
	checkWhen(t, b, 1, impl.MaxTime)
	checkTake(t, b, impl.MaxTime, 1, bucketOf(3, 10, 0, impl.MaxTime), true)
	b.At++
	checkWhen(t, b, 1, impl.MaxTime)
	checkTake(t, b, impl.MaxTime, 1, bucketOf(3, 10, billion-3, impl.MaxTime), false)
	b.At = impl.MaxTime
	checkWhen(t, b, 1, impl.MaxTime)
	b.Level = billion
	checkWhen(t, b, 1, impl.MaxTime)
	checkWhen(t, bucketOf(1, impl.MaxWindow, 0, impl.MaxTime), impl.MaxSegment, impl.MaxTime)
}

func TestWhenRefuses(t *testing.T) {
	for _, b := range wrongBuckets() {
		checkWhen(t, b, 1, -1)
		checkWhen(t, b, impl.MaxSegment, -1)
	}
	for _, n := range noSegments() {
		checkWhen(t, bucketOf(7, 2000, 2000*billion, 100), n, -1)
		checkWhen(t, bucketOf(0, 0, 0, 100), n, -1)
	}
}

func TestReset(t *testing.T) {
	b := bucketOf(7, 10, 3*billion, 50)
	checkReset(t, b, 9, 10, 50, bucketOf(9, 10, 3*billion, 50))
	// A lesser burst: just what the level fills, and less.
	checkReset(t, b, 9, 3, 50, bucketOf(9, 3, 3*billion, 50))
	checkReset(t, b, 9, 2, 50, bucketOf(9, 2, 2*billion, 50))
	checkReset(t, b, 9, 0, 50, bucketOf(9, 0, 0, 50))
	// A greater one brings nothing by itself.
	checkReset(t, b, 9, 11, 50, bucketOf(9, 11, 3*billion, 50))
	checkReset(t, b, impl.MaxRate, impl.MaxWindow, 50, bucketOf(impl.MaxRate, impl.MaxWindow, 3*billion, 50))
	// Until now it is the old rate that brings, and the old burst that holds.
	checkReset(t, b, 0, 20, 60, bucketOf(0, 20, 3*billion+70, 60))
	checkReset(t, b, impl.MaxRate, 20, 60, bucketOf(impl.MaxRate, 20, 3*billion+70, 60))
	checkReset(t, b, 9, 20, 2*billion, bucketOf(9, 20, 10*billion, 2*billion))
	checkReset(t, b, 9, 3, 60, bucketOf(9, 3, 3*billion, 60))
	// What is not later fills nothing; the bucket holds for the time that it had.
	checkReset(t, b, 9, 2, 49, bucketOf(9, 2, 2*billion, 50))
	checkReset(t, b, 9, 11, 0, bucketOf(9, 11, 3*billion, 50))
	checkReset(t, impl.Bucket{}, 0, 0, 0, impl.Bucket{})
	checkReset(t, impl.Bucket{}, 1, 2, 3, bucketOf(1, 2, 0, 3))
}

func TestResetRefuses(t *testing.T) {
	for _, b := range wrongBuckets() {
		for _, now := range []int64{0, 99, 100, 101} {
			checkReset(t, b, 7, 10, now, impl.Bucket{})
		}
	}
	b := bucketOf(7, 10, 5, 100)
	for _, now := range noTimes() {
		checkReset(t, b, 7, 10, now, impl.Bucket{})
	}
	for _, now := range []int64{99, 100, 101} {
		for _, rate := range []int64{-1, impl.MaxRate + 1, math.MinInt64, math.MaxInt64} {
			checkReset(t, b, rate, 10, now, impl.Bucket{})
		}
		for _, burst := range []int64{-1, impl.MaxWindow + 1, math.MinInt64, math.MaxInt64, 1 << 55} {
			checkReset(t, b, 7, burst, now, impl.Bucket{})
		}
	}
}

// edgeBuckets are right ones, and such as are one past a bound.
func edgeBuckets() []impl.Bucket {
	var list []impl.Bucket
	for _, rate := range []int64{-1, 0, 1, 999, 1 << 32, impl.MaxRate, impl.MaxRate + 1} {
		for _, burst := range []int64{-1, 0, 1, impl.MaxSegment, impl.MaxWindow, impl.MaxWindow + 1} {
			for _, at := range []int64{-1, 0, 1, 1 << 32, impl.MaxTime - 1, impl.MaxTime, impl.MaxTime + 1} {
				for _, level := range levelsOf(burst) {
					list = append(list, bucketOf(rate, burst, level, at))
				}
			}
		}
	}
	return list
}

func levelsOf(burst int64) []int64 {
	full := burst * billion
	const segment = impl.MaxSegment * billion
	return []int64{-1, 0, 1, billion - 1, billion, segment - 1, segment, full - 1000, full - 1, full, full + 1}
}

func TestBucketsAtEdges(t *testing.T) {
	for _, b := range edgeBuckets() {
		for _, now := range []int64{-1, 0, b.At - 1, b.At, b.At + 1, b.At + 1000, impl.MaxTime, impl.MaxTime + 1} {
			checkBucket(t, b, now, 1, 5, 1)
			checkBucket(t, b, now, impl.MaxSegment, impl.MaxRate, impl.MaxWindow)
		}
	}
}

func TestWhenAtEdges(t *testing.T) {
	for _, b := range edgeBuckets() {
		for _, n := range []int64{0, 1, impl.MaxSegment, impl.MaxSegment + 1} {
			checkWhen(t, b, n, wantWhen(b, n))
		}
	}
}

func TestBucketsAtEveryArgument(t *testing.T) {
	list := edges()
	for _, x := range list {
		for _, y := range list {
			for _, b := range []impl.Bucket{
				bucketOf(x, y, 5, 7), bucketOf(3, x, y, 7), bucketOf(3, 9, x, y), bucketOf(x, 9, 5, y),
			} {
				checkBucket(t, b, 8, 1, 4, 2)
				checkWhen(t, b, 1, wantWhen(b, 1))
			}
			checkBucket(t, bucketOf(3, 9, 5, 7), x, y, 4, 2)
			checkBucket(t, bucketOf(3, 9, 5, 7), 8, 1, x, y)
		}
	}
}

// anyBucket gives right buckets of every size.
func anyBucket(state *uint64) impl.Bucket {
	burst := mixed(state) % (impl.MaxWindow + 1)
	if mixed(state)%2 == 0 {
		burst %= 2 * impl.MaxSegment
	}
	level := mixed(state) % (burst*billion + 1)
	return bucketOf(mixed(state)%(impl.MaxRate+1), burst, level, mixed(state)%(impl.MaxTime+1))
}

func TestMixedBuckets(t *testing.T) {
	var state uint64 = 4
	for range 50000 {
		b := anyBucket(&state)
		now := mixed(&state) % (impl.MaxTime + 1)
		n := 1 + mixed(&state)%impl.MaxSegment
		checkBucket(t, b, now, n, mixed(&state)%(impl.MaxRate+1), mixed(&state)%(impl.MaxWindow+1))
	}
}

func TestFillInTwoSteps(t *testing.T) {
	var state uint64 = 5
	for range 50000 {
		b := anyBucket(&state)
		later := b.At + mixed(&state)%(impl.MaxTime+1-b.At)
		between := b.At + mixed(&state)%(later-b.At+1)
		checkFill(t, impl.Fill(b, between), later, impl.Fill(b, later))
		for _, again := range []int64{later, between, b.At} {
			checkFill(t, impl.Fill(b, later), again, impl.Fill(b, later))
		}
	}
	for _, level := range []int64{0, billion - 10, billion} {
		b := bucketOf(3, 1, level, 50)
		for later := range int64(8) {
			for between := range later + 1 {
				checkFill(t, impl.Fill(b, 50+between), 50+later, impl.Fill(b, 50+later))
			}
		}
	}
}

// checkFirst holds When against Take, at that time and a nanosecond ahead of it.
func checkFirst(t *testing.T, b impl.Bucket, n int64) {
	t.Helper()
	at := impl.When(b, n)
	if at < b.At || at > impl.MaxTime {
		t.Fatalf("When(%+v, %d) = %d", b, n, at)
	}
	if _, ok := impl.Take(b, at, n); !ok && at < impl.MaxTime {
		t.Fatalf("When(%+v, %d) = %d, which is too soon", b, n, at)
	}
	if at > b.At {
		if _, ok := impl.Take(b, at-1, n); ok {
			t.Fatalf("When(%+v, %d) = %d, which is not the first time", b, n, at)
		}
	}
	checkWhen(t, b, n, wantWhen(b, n))
}

func TestWhenIsTheFirstTime(t *testing.T) {
	var state uint64 = 6
	for range 5000 {
		b := anyBucket(&state)
		n := 1 + mixed(&state)%impl.MaxSegment
		checkFirst(t, b, n)
		// With less in it than is asked for, there is a wait.
		b.Level = min(b.Level, mixed(&state)%(n*billion))
		checkFirst(t, b, n)
		b.Burst = max(b.Burst, n)
		checkFirst(t, b, n)
		b.At = impl.MaxTime - mixed(&state)%5
		checkFirst(t, b, n)
	}
}

func TestWhenByEveryTime(t *testing.T) {
	for rate := range int64(12) {
		for lacks := range int64(40) {
			b := bucketOf(rate, 2, billion-lacks, impl.MaxTime-20)
			want := int64(impl.MaxTime)
			for now := want; now >= b.At; now-- {
				if _, ok := impl.Take(b, now, 1); ok {
					want = now
				}
			}
			checkWhen(t, b, 1, want)
		}
	}
}

// A taking is what was taken at a time.
type taking struct {
	at int64
	n  int64
}

// checkTakings holds what was taken in every time from one taking to another
// against the burst and what the rate brings.
func checkTakings(t *testing.T, rate int64, burst int64, list []taking) {
	t.Helper()
	for i, first := range list {
		var sum int64
		for _, x := range list[i:] {
			sum += x.n
			bound := new(big.Int).Mul(big.NewInt(rate), big.NewInt(x.at-first.at))
			bound.Add(bound, big.NewInt(burst*billion))
			taken := new(big.Int).Mul(big.NewInt(sum), big.NewInt(1e9))
			if taken.Cmp(bound) > 0 {
				t.Fatalf("%d bytes were taken from %d to %d, at a rate of %d and a burst of %d", sum, first.at, x.at, rate, burst)
			}
		}
	}
}

// takeOften takes what it can, at times that come steps apart, some not later than the last.
func takeOften(t *testing.T, b impl.Bucket, step int64, state *uint64) []taking {
	t.Helper()
	var list []taking
	for range 300 {
		now := max(0, b.At-1+mixed(state)%step)
		n := 1 + mixed(state)%impl.MaxSegment
		want, wantOk := wantTake(b, now, n)
		checkTake(t, b, now, n, want, wantOk)
		if wantOk {
			list = append(list, taking{want.At, n})
		}
		b = impl.Fill(want, want.At+mixed(state)%step)
	}
	return list
}

func TestTakenIsBounded(t *testing.T) {
	var state uint64 = 7
	for _, burst := range []int64{0, 1, impl.MaxSegment, 4000, 100000, impl.MaxWindow} {
		for _, rate := range []int64{0, 1, 1000, 123456789, impl.MaxRate} {
			for _, step := range []int64{2, 1000, billion, impl.MaxTime / 1000} {
				b, _ := impl.Full(rate, burst, 0)
				checkTakings(t, rate, burst, takeOften(t, b, step, &state))
			}
		}
	}
}

// Who comes whenever When says so is never turned away, and gets all that the
// rate brings, but for what a nanosecond does.
func TestAllIsTakenInTime(t *testing.T) {
	for _, rate := range []int64{1, 7, 1000, 999999937, impl.MaxRate} {
		b, _ := impl.Full(rate, 2*impl.MaxSegment, 3)
		var list []taking
		var sum int64
		for i := range int64(200) {
			n := 1 + i*i%impl.MaxSegment
			at := impl.When(b, n)
			left, ok := impl.Take(b, at, n)
			if !ok {
				t.Fatalf("Take(%+v, %d, %d) at the time that When told", b, at, n)
			}
			if at > b.At && left.Level >= rate {
				t.Fatalf("Take(%+v, %d, %d) leaves %d at a rate of %d", b, at, n, left.Level, rate)
			}
			b, sum = left, sum+n
			list = append(list, taking{at, n})
			if brought := 2*impl.MaxSegment*billion + rate*(at-3); sum*billion+b.Level != brought {
				t.Fatalf("%d bytes taken and %d billionths left of %d at a rate of %d", sum, b.Level, brought, rate)
			}
		}
		checkTakings(t, rate, 2*impl.MaxSegment, list)
	}
}
