package tests

import (
	"testing"

	"loop.example/trafficguard/impl"
)

const (
	mostInt  = int(^uint(0) >> 1)
	leastInt = -mostInt - 1
)

// ticked lets a bucket wait one tick after the other, so that it does not depend on the program.
func ticked(b impl.Bucket, now int) impl.Bucket {
	for b.At < now {
		b.Level = min(b.Level+b.Rate, b.Burst)
		b.At++
	}
	return b
}

// smallBuckets returns all buckets of a few rates and bursts.
func smallBuckets() []impl.Bucket {
	var list []impl.Bucket
	for rate := range 6 {
		for burst := 1; burst <= 12; burst++ {
			for level := range burst + 1 {
				list = append(list, impl.Bucket{Rate: rate, Burst: burst, Level: level, At: 3})
			}
		}
	}
	return list
}

// limitBuckets returns valid buckets with fields at their limits.
func limitBuckets() []impl.Bucket {
	var list []impl.Bucket
	for _, rate := range []int{0, 1, 999, 1000} {
		for _, burst := range []int{1, 2, 9999, 10000} {
			for _, level := range []int{0, 1, burst - 1, burst} {
				for _, at := range []int{0, 1, 999999, 1000000} {
					list = append(list, impl.Bucket{Rate: rate, Burst: burst, Level: level, At: at})
				}
			}
		}
	}
	return list
}

func invalidBuckets() []impl.Bucket {
	list := []impl.Bucket{{}, {Rate: 10, At: 5}, {Rate: 10, Burst: 0, Level: 1}, {Rate: 10, Burst: 10000, Level: 10001}}
	for _, n := range []int{-1, 1001, leastInt, mostInt} {
		list = append(list, impl.Bucket{Rate: n, Burst: 100, Level: 50, At: 5})
	}
	for _, n := range []int{-1, 10001, leastInt, mostInt} {
		list = append(list, impl.Bucket{Rate: 10, Burst: n, Level: 0, At: 5})
	}
	for _, n := range []int{-1, 101, 10000, leastInt, mostInt} {
		list = append(list, impl.Bucket{Rate: 10, Burst: 100, Level: n, At: 5})
	}
	for _, n := range []int{-1, 1000001, leastInt, mostInt} {
		list = append(list, impl.Bucket{Rate: 10, Burst: 100, Level: 50, At: n})
	}
	return list
}

// checkRefused expects that every function of a bucket and a time refuses both.
func checkRefused(t *testing.T, b impl.Bucket, now int) {
	t.Helper()
	if n, ok := impl.LevelAt(b, now); ok || n != 0 {
		t.Errorf("LevelAt(%v, %d) = %d, %v", b, now, n, ok)
	}
	for _, count := range []int{0, 1, 50, leastInt, mostInt} {
		if c, took, ok := impl.TakeTokens(b, now, count); ok || took || c != (impl.Bucket{}) {
			t.Errorf("TakeTokens(%v, %d, %d) = %v, %v, %v", b, now, count, c, took, ok)
		}
		if c, ok := impl.GiveTokens(b, now, count); ok || c != (impl.Bucket{}) {
			t.Errorf("GiveTokens(%v, %d, %d) = %v, %v", b, now, count, c, ok)
		}
		if n, ok := impl.WaitFor(b, now, count); ok || n != 0 {
			t.Errorf("WaitFor(%v, %d, %d) = %d, %v", b, now, count, n, ok)
		}
	}
	if c, ok := impl.ChangeRate(b, now, 10, 100); ok || c != (impl.Bucket{}) {
		t.Errorf("ChangeRate(%v, %d, 10, 100) = %v, %v", b, now, c, ok)
	}
}

// checkTaken expects that TakeTokens of b takes count tokens from full, or none if it has fewer.
func checkTaken(t *testing.T, b impl.Bucket, full impl.Bucket, count int) {
	t.Helper()
	want, enough := full, count <= full.Level
	if enough {
		want.Level -= count
	}
	if got, took, ok := impl.TakeTokens(b, full.At, count); !ok || took != enough || got != want {
		t.Errorf("TakeTokens(%v, %d, %d) = %v, %v, %v, want %v, %v", b, full.At, count, got, took, ok, want, enough)
	}
}

func checkGiven(t *testing.T, b impl.Bucket, now int, count int, want impl.Bucket) {
	t.Helper()
	if got, ok := impl.GiveTokens(b, now, count); !ok || got != want {
		t.Errorf("GiveTokens(%v, %d, %d) = %v, %v, want %v", b, now, count, got, ok, want)
	}
}

func checkLevel(t *testing.T, b impl.Bucket, now int, want int) {
	t.Helper()
	if got, ok := impl.LevelAt(b, now); !ok || got != want {
		t.Errorf("LevelAt(%v, %d) = %d, %v, want %d", b, now, got, ok, want)
	}
}

func checkWait(t *testing.T, b impl.Bucket, now int, count int, want int, comes bool) {
	t.Helper()
	if got, ok := impl.WaitFor(b, now, count); ok != comes || got != want {
		t.Errorf("WaitFor(%v, %d, %d) = %d, %v, want %d, %v", b, now, count, got, ok, want, comes)
	}
}

func checkChanged(t *testing.T, b impl.Bucket, now int, rate int, burst int, want impl.Bucket) {
	t.Helper()
	got, ok := impl.ChangeRate(b, now, rate, burst)
	if ok != (want != impl.Bucket{}) || got != want {
		t.Errorf("ChangeRate(%v, %d, %d, %d) = %v, %v, want %v", b, now, rate, burst, got, ok, want)
	}
}

func TestBucketLimitConstants(t *testing.T) {
	if impl.MaxRate != 1000 || impl.MaxBurst != 10000 || impl.MaxTime != 1000000 {
		t.Errorf("limits = %d, %d, %d", impl.MaxRate, impl.MaxBurst, impl.MaxTime)
	}
}

func TestBucketsWithinTheLimitsAreValid(t *testing.T) {
	for _, b := range append(smallBuckets(), limitBuckets()...) {
		if !impl.BucketValid(b) {
			t.Errorf("BucketValid(%v) = false", b)
		}
	}
}

func TestInvalidBucketsAreRefused(t *testing.T) {
	for _, b := range invalidBuckets() {
		if impl.BucketValid(b) {
			t.Errorf("BucketValid(%v) = true", b)
		}
		for _, now := range []int{0, 5, 6, 1000000, b.At} {
			checkRefused(t, b, now)
		}
	}
}

func TestNewBucketIsFull(t *testing.T) {
	for _, rate := range []int{0, 1, 10, 999, 1000} {
		for _, burst := range []int{1, 2, 100, 9999, 10000} {
			for _, now := range []int{0, 1, 7, 999999, 1000000} {
				want := impl.Bucket{Rate: rate, Burst: burst, Level: burst, At: now}
				if b, ok := impl.NewBucket(rate, burst, now); !ok || b != want {
					t.Errorf("NewBucket(%d, %d, %d) = %v, %v", rate, burst, now, b, ok)
				}
			}
		}
	}
}

func TestNewBucketRefusesWhatIsNotValid(t *testing.T) {
	cases := [][3]int{{0, 0, 0}, {-1, 0, -1}, {1001, 10001, 1000001}}
	for _, n := range []int{-1, 1001, leastInt, mostInt} {
		cases = append(cases, [3]int{n, 100, 7})
	}
	for _, n := range []int{-1, 0, 10001, leastInt, mostInt} {
		cases = append(cases, [3]int{10, n, 7})
	}
	for _, n := range []int{-1, 1000001, leastInt, mostInt} {
		cases = append(cases, [3]int{10, 100, n})
	}
	for _, c := range cases {
		if b, ok := impl.NewBucket(c[0], c[1], c[2]); ok || b != (impl.Bucket{}) {
			t.Errorf("NewBucket(%d, %d, %d) = %v, %v", c[0], c[1], c[2], b, ok)
		}
	}
}

func TestTimesThatAreRefused(t *testing.T) {
	for _, b := range []impl.Bucket{{Rate: 10, Burst: 100, Level: 50, At: 7}, {Burst: 1}, {Rate: 1000, Burst: 10000, Level: 10000, At: 1000000}} {
		for _, now := range []int{b.At - 1, -1, 1000001, leastInt, mostInt} {
			checkRefused(t, b, now)
		}
	}
	checkRefused(t, impl.Bucket{Rate: 10, Burst: 100, Level: 50, At: 7}, 0)
}

func TestTokensComeInWithTime(t *testing.T) {
	for _, b := range smallBuckets() {
		for now := b.At; now <= b.At+15; now++ {
			checkLevel(t, b, now, ticked(b, now).Level)
		}
	}
}

func TestExampleOfTheDocument(t *testing.T) {
	b := impl.Bucket{Rate: 10, Burst: 100, Level: 5, At: 7}
	checkLevel(t, b, 10, 35)
	checkWait(t, b, 7, 60, 6, true)
	checkLevel(t, b, 12, 55)
	checkLevel(t, b, 13, 65)
	checkWait(t, b, 7, 55, 5, true)
	checkWait(t, b, 7, 56, 6, true)
	checkLevel(t, b, 16, 95)
	checkLevel(t, b, 17, 100)
}

func TestRateOfNothing(t *testing.T) {
	b := impl.Bucket{Burst: 100, Level: 40, At: 7}
	for _, now := range []int{7, 8, 1000, 1000000} {
		checkLevel(t, b, now, 40)
		checkWait(t, b, now, 0, 0, true)
		checkWait(t, b, now, 40, 0, true)
		checkWait(t, b, now, 41, 0, false)
		checkWait(t, b, now, 100, 0, false)
		checkWait(t, b, now, 101, 0, false)
		checkTaken(t, b, impl.Bucket{Burst: 100, Level: 40, At: now}, 40)
		checkTaken(t, b, impl.Bucket{Burst: 100, Level: 40, At: now}, 41)
		checkGiven(t, b, now, 10, impl.Bucket{Burst: 100, Level: 50, At: now})
		checkChanged(t, b, now, 3, 60, impl.Bucket{Rate: 3, Burst: 60, Level: 40, At: now})
	}
}

func TestFullBucketStaysFull(t *testing.T) {
	for _, rate := range []int{0, 1, 1000} {
		for _, burst := range []int{1, 100, 10000} {
			for _, now := range []int{7, 8, 1000000} {
				b := impl.Bucket{Rate: rate, Burst: burst, Level: burst, At: 7}
				full := impl.Bucket{Rate: rate, Burst: burst, Level: burst, At: now}
				checkLevel(t, b, now, burst)
				checkGiven(t, b, now, 0, full)
				checkGiven(t, b, now, 1, full)
				checkGiven(t, b, now, mostInt, full)
				checkWait(t, b, now, burst, 0, true)
				checkTaken(t, b, full, burst)
				checkTaken(t, b, full, burst+1)
			}
		}
	}
}

// TestSameTimeTwice takes at one time until nothing is left: no tokens come in between.
func TestSameTimeTwice(t *testing.T) {
	b := impl.Bucket{Rate: 10, Burst: 100, Level: 5, At: 7}
	steps := []struct {
		count int
		took  bool
		level int
	}{{30, true, 25}, {26, false, 25}, {0, true, 25}, {25, true, 0}, {1, false, 0}, {0, true, 0}}
	for _, s := range steps {
		got, took, ok := impl.TakeTokens(b, 12, s.count)
		if want := (impl.Bucket{Rate: 10, Burst: 100, Level: s.level, At: 12}); !ok || took != s.took || got != want {
			t.Errorf("TakeTokens(%v, 12, %d) = %v, %v, %v, want %v, %v", b, s.count, got, took, ok, want, s.took)
		}
		b = got
	}
	checkLevel(t, b, 12, 0)
	checkLevel(t, b, 12, 0)
	checkGiven(t, b, 12, 4, impl.Bucket{Rate: 10, Burst: 100, Level: 4, At: 12})
	checkChanged(t, b, 12, 1, 2, impl.Bucket{Rate: 1, Burst: 2, Level: 0, At: 12})
	checkWait(t, b, 12, 1, 1, true)
	checkLevel(t, b, 13, 10)
}

func TestTakenAndGivenTokens(t *testing.T) {
	for _, b := range smallBuckets() {
		for _, wait := range []int{0, 1, 2, 3, 12} {
			full := ticked(b, b.At+wait)
			for count := range b.Burst + 3 {
				checkTaken(t, b, full, count)
				want := full
				want.Level = min(full.Level+count, full.Burst)
				checkGiven(t, b, full.At, count, want)
			}
		}
	}
}

func TestCountsWithoutLimit(t *testing.T) {
	for _, b := range limitBuckets() {
		checkTaken(t, b, b, mostInt)
		checkTaken(t, b, b, 10001)
		want := b
		want.Level = b.Burst
		checkGiven(t, b, b.At, mostInt, want)
		checkGiven(t, b, b.At, mostInt-1, want)
		checkGiven(t, b, b.At, 10001, want)
		checkWait(t, b, b.At, mostInt, 0, false)
	}
}

func TestNegativeCountsAreRefused(t *testing.T) {
	for _, b := range limitBuckets() {
		for _, count := range []int{-1, -10000, leastInt} {
			if c, took, ok := impl.TakeTokens(b, b.At, count); ok || took || c != (impl.Bucket{}) {
				t.Errorf("TakeTokens(%v, %d, %d) = %v, %v, %v", b, b.At, count, c, took, ok)
			}
			if c, ok := impl.GiveTokens(b, b.At, count); ok || c != (impl.Bucket{}) {
				t.Errorf("GiveTokens(%v, %d, %d) = %v, %v", b, b.At, count, c, ok)
			}
			checkWait(t, b, b.At, count, 0, false)
		}
	}
}

// TestWaitIsTheLeastOne looks for the first tick with enough tokens.
func TestWaitIsTheLeastOne(t *testing.T) {
	for _, b := range smallBuckets() {
		for _, wait := range []int{0, 1, 3} {
			full := ticked(b, b.At+wait)
			for count := range b.Burst + 3 {
				ticks, comes := 0, count <= b.Burst && (b.Rate > 0 || count <= full.Level)
				for comes && ticked(full, full.At+ticks).Level < count {
					ticks++
				}
				checkWait(t, b, full.At, count, ticks, comes)
			}
		}
	}
}

func TestWaitBeyondTheLastTime(t *testing.T) {
	checkWait(t, impl.Bucket{Rate: 1, Burst: 10000, At: 1000000}, 1000000, 10000, 10000, true)
	checkWait(t, impl.Bucket{Rate: 3, Burst: 10000, At: 999990}, 999999, 10000, 3325, true)
	checkWait(t, impl.Bucket{Rate: 1000, Burst: 10000, At: 1000000}, 1000000, 10000, 10, true)
	checkWait(t, impl.Bucket{Rate: 1000, Burst: 10000, Level: 1, At: 1000000}, 1000000, 9002, 10, true)
	checkWait(t, impl.Bucket{Rate: 1000, Burst: 10000, Level: 1, At: 1000000}, 1000000, 9001, 9, true)
}

func TestWaitForMoreThanTheBurst(t *testing.T) {
	for _, b := range limitBuckets() {
		checkWait(t, b, b.At, b.Burst+1, 0, false)
		checkWait(t, b, 1000000, b.Burst+1, 0, false)
	}
}

func TestLongWaits(t *testing.T) {
	checkLevel(t, impl.Bucket{Rate: 1, Burst: 10000}, 9999, 9999)
	checkLevel(t, impl.Bucket{Rate: 1, Burst: 10000}, 10000, 10000)
	checkLevel(t, impl.Bucket{Rate: 1, Burst: 10000}, 10001, 10000)
	checkLevel(t, impl.Bucket{Rate: 1000, Burst: 10000, Level: 10000}, 1000000, 10000)
	checkLevel(t, impl.Bucket{Rate: 1000, Burst: 10000, Level: 9999}, 1000000, 10000)
	checkLevel(t, impl.Bucket{Rate: 1000, Burst: 1}, 1000000, 1)
	checkLevel(t, impl.Bucket{Rate: 1000, Burst: 10000, Level: 1, At: 999991}, 1000000, 9001)
}

func TestChangedRates(t *testing.T) {
	for _, b := range smallBuckets() {
		for _, wait := range []int{0, 1, 2, 12} {
			full := ticked(b, b.At+wait)
			for _, rate := range []int{0, 1, 7, 1000} {
				for _, burst := range []int{1, 2, 5, 12, 13, 10000} {
					want := impl.Bucket{Rate: rate, Burst: burst, Level: min(full.Level, burst), At: full.At}
					checkChanged(t, b, full.At, rate, burst, want)
				}
			}
		}
	}
}

// TestChangeUsesTheOldRateUntilNow has new values that would give another level.
func TestChangeUsesTheOldRateUntilNow(t *testing.T) {
	b := impl.Bucket{Rate: 10, Burst: 100, Level: 5, At: 7}
	checkChanged(t, b, 10, 1, 200, impl.Bucket{Rate: 1, Burst: 200, Level: 35, At: 10})
	checkChanged(t, b, 10, 1000, 200, impl.Bucket{Rate: 1000, Burst: 200, Level: 35, At: 10})
	checkChanged(t, b, 100, 1, 200, impl.Bucket{Rate: 1, Burst: 200, Level: 100, At: 100})
	checkChanged(t, b, 100, 1, 30, impl.Bucket{Rate: 1, Burst: 30, Level: 30, At: 100})
	checkChanged(t, b, 10, 10, 100, impl.Bucket{Rate: 10, Burst: 100, Level: 35, At: 10})
}

func TestChangesThatAreRefused(t *testing.T) {
	for _, b := range limitBuckets() {
		for _, rate := range []int{-1, 1001, leastInt, mostInt} {
			checkChanged(t, b, b.At, rate, 100, impl.Bucket{})
		}
		for _, burst := range []int{-1, 0, 10001, leastInt, mostInt} {
			checkChanged(t, b, b.At, 10, burst, impl.Bucket{})
		}
	}
}

// TestTokensAreTakenOnce follows rows of calls: at no time is more taken than there was at first, was given and came in.
func TestTokensAreTakenOnce(t *testing.T) {
	for seed := range 50 {
		b, ok := impl.NewBucket(seed%7, 10+seed, seed)
		if !ok {
			t.Fatalf("NewBucket of %d is refused", seed)
		}
		n, paid, taken := seed, b.Level, 0
		for range 200 {
			n = (n*1103515245 + 12345) % 2147483648
			now, count := b.At+n/65536%4, n/262144%9
			paid += b.Rate * (now - b.At)
			full := ticked(b, now)
			if n/4194304%5 == 0 {
				b, _ = impl.GiveTokens(b, now, count)
				paid += count
				full.Level = min(full.Level+count, full.Burst)
			} else {
				next, took, _ := impl.TakeTokens(b, now, count)
				if took {
					taken += count
					full.Level -= count
				}
				b = next
			}
			if b != full || taken+b.Level > paid {
				t.Fatalf("row %d: %v, want %v; %d were taken of %d", seed, b, full, taken, paid)
			}
		}
	}
}
