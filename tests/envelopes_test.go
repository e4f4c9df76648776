package tests

import (
	"fmt"
	"slices"
	"testing"

	"loop.example/trafficguard/impl"
)

// arrivalsOf returns the arrivals of which the times and the sizes are given in turns.
func arrivalsOf(numbers ...int) []impl.Arrival {
	var list []impl.Arrival
	for pair := range slices.Chunk(numbers, 2) {
		list = append(list, impl.Arrival{Time: pair[0], Size: pair[1]})
	}
	return list
}

// arrivalsAt returns count arrivals at one time.
func arrivalsAt(time int, size int, count int) []impl.Arrival {
	return slices.Repeat(arrivalsOf(time, size), count)
}

// smallArrivals returns all lists of up to three arrivals of a few times and sizes.
func smallArrivals() [][]impl.Arrival {
	list := [][]impl.Arrival{nil}
	for from, count := 0, 0; count < 3; count++ {
		end := len(list)
		for _, front := range list[from:end] {
			earliest := 0
			if count > 0 {
				earliest = front[count-1].Time
			}
			for time := earliest; time < 4; time++ {
				for size := 1; size <= 3; size++ {
					list = append(list, append(slices.Clone(front), impl.Arrival{Time: time, Size: size}))
				}
			}
		}
		from = end
	}
	return list
}

// mixedArrivals returns arrivals of which many are at one time, and some are far from the others.
func mixedArrivals(seed int) []impl.Arrival {
	var list []impl.Arrival
	row := numberRow(seed, 1+2*32, 10000)
	time, count, most := row[0]%50, row[0]%33, []int{3, 30, 100}[seed%3]
	for i := range count {
		gap := row[1+i] % 4
		if row[33+i]%11 == 0 {
			gap = row[1+i] % 300
		}
		time = min(time+gap, 10000)
		list = append(list, impl.Arrival{Time: time, Size: 1 + row[33+i]%most})
	}
	return list
}

// limitArrivals returns valid lists with times, sizes and lengths at their limits.
func limitArrivals() [][]impl.Arrival {
	list := [][]impl.Arrival{nil, {}, arrivalsOf(0, 1, 10000, 100), arrivalsOf(0, 100, 10000, 1), arrivalsOf(0, 50, 5000, 50, 10000, 50)}
	for _, time := range []int{0, 1, 5000, 9999, 10000} {
		for _, size := range []int{1, 2, 60, 99, 100} {
			for _, count := range []int{1, 2, 31, 32} {
				list = append(list, arrivalsAt(time, size, count))
			}
		}
	}
	list = append(list, append(arrivalsAt(0, 100, 16), arrivalsAt(10000, 100, 16)...), append(arrivalsAt(9999, 100, 16), arrivalsAt(10000, 100, 16)...))
	return list
}

func validArrivals() [][]impl.Arrival {
	list := append(limitArrivals(), smallArrivals()[:200]...)
	for seed := range 60 {
		list = append(list, mixedArrivals(seed))
	}
	return list
}

func invalidArrivals() [][]impl.Arrival {
	list := [][]impl.Arrival{make([]impl.Arrival, 1), arrivalsOf(5, 1, 4, 1), arrivalsOf(10000, 1, 9999, 1), arrivalsOf(1, 1, 0, 1), arrivalsOf(0, 5, 9, 5, 8, 5), arrivalsOf(9, 5, 0, 5, 9, 5)}
	for _, bad := range []impl.Arrival{
		{Time: -1, Size: 5}, {Time: 10001, Size: 5}, {Time: leastInt, Size: 5}, {Time: mostInt, Size: 5},
		{Time: 5, Size: -1}, {Time: 5, Size: 0}, {Time: 5, Size: 101}, {Time: 5, Size: leastInt}, {Time: 5, Size: mostInt}, {Time: -1, Size: 0},
	} {
		for place := range 3 {
			list = append(list, slices.Insert(arrivalsOf(5, 7, 5, 7), place, bad))
		}
		list = append(list, []impl.Arrival{bad}, append(arrivalsAt(5, 7, 31), bad))
	}
	for _, count := range []int{33, 34, 64, 65, 1000} {
		list = append(list, arrivalsAt(5, 7, count))
	}
	return append(list, append(arrivalsAt(0, 1, 32), impl.Arrival{}))
}

func bytesOfArrivals(list []impl.Arrival) int {
	sum := 0
	for _, a := range list {
		sum += a.Size
	}
	return sum
}

// conformsByHand lets a bucket wait one tick after the other.
func conformsByHand(list []impl.Arrival, rate int, burst int) bool {
	b := impl.Bucket{Rate: rate, Burst: burst, Level: burst}
	for _, a := range list {
		b = ticked(b, a.Time)
		if a.Size > b.Level {
			return false
		}
		b.Level -= a.Size
	}
	return true
}

// burstByHand adds the sizes of each row of arrivals.
func burstByHand(list []impl.Arrival, rate int) int {
	most := 1
	for first := range list {
		for last := first; last < len(list); last++ {
			ticks := list[last].Time - list[first].Time
			most = max(most, bytesOfArrivals(list[first:last+1])-rate*ticks)
		}
	}
	return most
}

// shapedByHand looks at each time whether the next arrival comes.
func shapedByHand(list []impl.Arrival, rate int, burst int) ([]impl.Arrival, bool) {
	b := impl.Bucket{Rate: rate, Burst: burst, Level: burst}
	var done []impl.Arrival
	for now := 0; now <= 10000 && len(done) < len(list); now++ {
		b = ticked(b, now)
		for len(done) < len(list) && list[len(done)].Time <= now && list[len(done)].Size <= b.Level {
			size := list[len(done)].Size
			b.Level -= size
			done = append(done, impl.Arrival{Time: now, Size: size})
		}
	}
	if len(done) < len(list) {
		return nil, false
	}
	return done, true
}

// mergedByHand takes the earlier one of the first arrivals again and again.
func mergedByHand(a []impl.Arrival, b []impl.Arrival) ([]impl.Arrival, bool) {
	if len(a)+len(b) > 32 {
		return nil, false
	}
	var list []impl.Arrival
	for len(a)+len(b) > 0 {
		if len(b) == 0 || len(a) > 0 && a[0].Time <= b[0].Time {
			list, a = append(list, a[0]), a[1:]
		} else {
			list, b = append(list, b[0]), b[1:]
		}
	}
	return list, true
}

// peakByHand lets all ticks begin at each time, whether something arrives then or not.
func peakByHand(list []impl.Arrival, ticks int) int {
	most := 0
	for start := range 10001 {
		sum := 0
		for _, a := range list {
			if start <= a.Time && a.Time-start < ticks {
				sum += a.Size
			}
		}
		most = max(most, sum)
	}
	return most
}

// delayByHand sends one byte after the other, and counts the ticks that have begun.
func delayByHand(list []impl.Arrival, rate int) int {
	most, next, sent := 0, 0, 0
	for now := 0; next < len(list); now++ {
		for bytes := rate; bytes > 0 && next < len(list) && list[next].Time <= now; bytes-- {
			sent++
			if sent == list[next].Size {
				most = max(most, now+1-list[next].Time)
				next, sent = next+1, 0
			}
		}
	}
	return most
}

func checkConforms(t *testing.T, list []impl.Arrival, rate int, burst int, want bool) {
	t.Helper()
	if got, ok := impl.Conforms(list, rate, burst); !ok || got != want {
		t.Errorf("Conforms(%v, %d, %d) = %v, %v, want %v", list, rate, burst, got, ok, want)
	}
}

func checkLeastBurst(t *testing.T, list []impl.Arrival, rate int, want int) {
	t.Helper()
	if got, ok := impl.LeastBurst(list, rate); !ok || got != want {
		t.Errorf("LeastBurst(%v, %d) = %d, %v, want %d", list, rate, got, ok, want)
	}
}

func checkLeastRate(t *testing.T, list []impl.Arrival, burst int, want int) {
	t.Helper()
	if got, ok := impl.LeastRate(list, burst); !ok || got != want {
		t.Errorf("LeastRate(%v, %d) = %d, %v, want %d", list, burst, got, ok, want)
	}
}

func checkNoRate(t *testing.T, list []impl.Arrival, burst int) {
	t.Helper()
	if got, ok := impl.LeastRate(list, burst); ok || got != 0 {
		t.Errorf("LeastRate(%v, %d) = %d, %v", list, burst, got, ok)
	}
}

func checkShaped(t *testing.T, list []impl.Arrival, rate int, burst int, want []impl.Arrival) {
	t.Helper()
	if got, ok := impl.ShapeArrivals(list, rate, burst); !ok || !slices.Equal(got, want) {
		t.Errorf("ShapeArrivals(%v, %d, %d) = %v, %v, want %v", list, rate, burst, got, ok, want)
	}
}

func checkNotShaped(t *testing.T, list []impl.Arrival, rate int, burst int) {
	t.Helper()
	if got, ok := impl.ShapeArrivals(list, rate, burst); ok || len(got) != 0 {
		t.Errorf("ShapeArrivals(%v, %d, %d) = %v, %v", list, rate, burst, got, ok)
	}
}

func checkMerged(t *testing.T, a []impl.Arrival, b []impl.Arrival, want []impl.Arrival) {
	t.Helper()
	if got, ok := impl.MergeArrivals(a, b); !ok || !slices.Equal(got, want) {
		t.Errorf("MergeArrivals(%v, %v) = %v, %v, want %v", a, b, got, ok, want)
	}
}

func checkNotMerged(t *testing.T, a []impl.Arrival, b []impl.Arrival) {
	t.Helper()
	if got, ok := impl.MergeArrivals(a, b); ok || len(got) != 0 {
		t.Errorf("MergeArrivals(%v, %v) = %v, %v", a, b, got, ok)
	}
}

func checkPeak(t *testing.T, list []impl.Arrival, ticks int, want int) {
	t.Helper()
	if got, ok := impl.PeakOf(list, ticks); !ok || got != want {
		t.Errorf("PeakOf(%v, %d) = %d, %v, want %d", list, ticks, got, ok, want)
	}
}

func checkNoPeak(t *testing.T, list []impl.Arrival, ticks int) {
	t.Helper()
	if got, ok := impl.PeakOf(list, ticks); ok || got != 0 {
		t.Errorf("PeakOf(%v, %d) = %d, %v", list, ticks, got, ok)
	}
}

func checkDelay(t *testing.T, list []impl.Arrival, rate int, want int) {
	t.Helper()
	if got, ok := impl.WorstDelay(list, rate); !ok || got != want {
		t.Errorf("WorstDelay(%v, %d) = %d, %v, want %d", list, rate, got, ok, want)
	}
}

func checkNoDelay(t *testing.T, list []impl.Arrival, rate int) {
	t.Helper()
	if got, ok := impl.WorstDelay(list, rate); ok || got != 0 {
		t.Errorf("WorstDelay(%v, %d) = %d, %v", list, rate, got, ok)
	}
}

// checkNoBucket expects that no function of arrivals and a whole bucket accepts these.
func checkNoBucket(t *testing.T, list []impl.Arrival, rate int, burst int) {
	t.Helper()
	if got, ok := impl.Conforms(list, rate, burst); ok || got {
		t.Errorf("Conforms(%v, %d, %d) = %v, %v", list, rate, burst, got, ok)
	}
	checkNotShaped(t, list, rate, burst)
}

func checkNoLeastBurst(t *testing.T, list []impl.Arrival, rate int) {
	t.Helper()
	if got, ok := impl.LeastBurst(list, rate); ok || got != 0 {
		t.Errorf("LeastBurst(%v, %d) = %d, %v", list, rate, got, ok)
	}
}

// checkRateAlike expects a rate at which arrivals conform by hand, although they do not conform to a smaller one.
func checkRateAlike(t *testing.T, list []impl.Arrival, burst int) {
	t.Helper()
	got, ok := impl.LeastRate(list, burst)
	if ok != conformsByHand(list, 1000, burst) || !ok && got != 0 {
		t.Errorf("LeastRate(%v, %d) = %d, %v", list, burst, got, ok)
	}
	if ok && (got < 0 || got > 1000 || !conformsByHand(list, got, burst) || got > 0 && conformsByHand(list, got-1, burst)) {
		t.Errorf("LeastRate(%v, %d) = %d", list, burst, got)
	}
}

func checkShapedAlike(t *testing.T, list []impl.Arrival, rate int, burst int) {
	t.Helper()
	if want, comes := shapedByHand(list, rate, burst); comes {
		checkShaped(t, list, rate, burst, want)
	} else {
		checkNotShaped(t, list, rate, burst)
	}
}

func checkMergedAlike(t *testing.T, a []impl.Arrival, b []impl.Arrival) {
	t.Helper()
	if want, fits := mergedByHand(a, b); fits {
		checkMerged(t, a, b, want)
	} else {
		checkNotMerged(t, a, b)
	}
}

// checkDelayAlike knows that there is no delay at a rate of nothing.
func checkDelayAlike(t *testing.T, list []impl.Arrival, rate int) {
	t.Helper()
	if rate == 0 {
		checkNoDelay(t, list, rate)
	} else {
		checkDelay(t, list, rate, delayByHand(list, rate))
	}
}

// checkEnvelopes compares all results of arrivals, a rate and a burst with those made by hand.
func checkEnvelopes(t *testing.T, list []impl.Arrival, rate int, burst int) {
	t.Helper()
	checkConforms(t, list, rate, burst, conformsByHand(list, rate, burst))
	checkLeastBurst(t, list, rate, burstByHand(list, rate))
	checkRateAlike(t, list, burst)
	checkShapedAlike(t, list, rate, burst)
	checkDelayAlike(t, list, rate)
}

func TestArrivalLimitConstant(t *testing.T) {
	if impl.MaxArrivals != 32 {
		t.Errorf("MaxArrivals = %d", impl.MaxArrivals)
	}
}

func TestArrivalsWithinTheLimitsAreValid(t *testing.T) {
	lists := append(validArrivals(), smallArrivals()...)
	for count := range 33 {
		lists = append(lists, arrivalsAt(7, 5, count))
	}
	for size := 1; size <= 100; size++ {
		lists = append(lists, arrivalsOf(0, size), arrivalsOf(7, 1, 7, size, 8, 1))
	}
	for time := range 10001 {
		lists = append(lists, arrivalsOf(0, 1, time, 5, 10000, 1))
	}
	for _, list := range lists {
		if !impl.ArrivalsValid(list) {
			t.Errorf("ArrivalsValid(%v) = false", list)
		}
	}
}

func TestInvalidArrivalsAreRefused(t *testing.T) {
	for _, list := range invalidArrivals() {
		if impl.ArrivalsValid(list) {
			t.Errorf("ArrivalsValid(%v) = true", list)
		}
		for _, rate := range []int{-1, 0, 1, 20, 1000, 1001} {
			for _, burst := range []int{0, 1, 100, 10000, 10001} {
				checkNoBucket(t, list, rate, burst)
				checkNoRate(t, list, burst)
			}
			checkNoLeastBurst(t, list, rate)
			checkNoDelay(t, list, rate)
		}
		for _, ticks := range []int{0, 1, 5, 10001, 10002} {
			checkNoPeak(t, list, ticks)
		}
		for _, other := range [][]impl.Arrival{nil, arrivalsOf(5, 7), arrivalsAt(0, 1, 32), list} {
			checkNotMerged(t, list, other)
			checkNotMerged(t, other, list)
		}
	}
}

// TestArrivalsInEveryOrder has arrivals of which some are at one time: only an order without an earlier one behind is valid.
func TestArrivalsInEveryOrder(t *testing.T) {
	count := 0
	for number := range 4 * 4 * 4 * 4 {
		list := arrivalsOf(number%4, 1, number/4%4, 2, number/16%4, 3, number/64, 4)
		want := slices.IsSortedFunc(list, func(a impl.Arrival, b impl.Arrival) int { return a.Time - b.Time })
		if impl.ArrivalsValid(list) != want {
			t.Errorf("ArrivalsValid(%v) = %v", list, !want)
		}
		if want {
			count++
		} else {
			checkNoBucket(t, list, 5, 50)
		}
	}
	if count != 35 {
		t.Errorf("%d orders are valid", count)
	}
}

func TestRatesOfEnvelopesThatAreRefused(t *testing.T) {
	for _, list := range validArrivals() {
		for _, rate := range []int{-1, -20, 1001, 2000, leastInt, mostInt} {
			for _, burst := range []int{0, 1, 100, 10000} {
				checkNoBucket(t, list, rate, burst)
			}
			checkNoLeastBurst(t, list, rate)
			checkNoDelay(t, list, rate)
		}
	}
}

func TestBurstsOfEnvelopesThatAreRefused(t *testing.T) {
	for _, list := range validArrivals() {
		for _, burst := range []int{-1, 0, -100, 10001, 20000, leastInt, mostInt} {
			for _, rate := range []int{-1, 0, 1, 1000} {
				checkNoBucket(t, list, rate, burst)
			}
			checkNoRate(t, list, burst)
		}
	}
}

func TestTicksOfPeaksThatAreRefused(t *testing.T) {
	for _, list := range validArrivals() {
		for _, ticks := range []int{-1, 0, -10001, 10002, 20000, leastInt, mostInt} {
			checkNoPeak(t, list, ticks)
		}
	}
}

func TestExampleOfEnvelopes(t *testing.T) {
	list := arrivalsOf(0, 60, 1, 60)
	checkConforms(t, list, 20, 100, true)
	checkConforms(t, list, 20, 99, false)
	checkConforms(t, list, 19, 100, false)
	checkLeastBurst(t, list, 20, 100)
	checkLeastRate(t, list, 100, 20)
	checkShaped(t, list, 20, 100, list)
	checkShaped(t, list, 20, 99, arrivalsOf(0, 60, 2, 60))
	checkPeak(t, list, 1, 60)
	checkPeak(t, list, 2, 120)
	checkDelay(t, list, 20, 5)
	checkMerged(t, list, arrivalsOf(0, 7, 1, 8, 2, 9), arrivalsOf(0, 60, 0, 7, 1, 60, 1, 8, 2, 9))
}

func TestNoArrivals(t *testing.T) {
	for _, list := range [][]impl.Arrival{nil, {}} {
		for _, rate := range []int{0, 1, 20, 1000} {
			for _, burst := range []int{1, 100, 10000} {
				checkConforms(t, list, rate, burst, true)
				checkShaped(t, list, rate, burst, nil)
				checkLeastRate(t, list, burst, 0)
			}
			checkLeastBurst(t, list, rate, 1)
		}
		for _, ticks := range []int{1, 2, 10000, 10001} {
			checkPeak(t, list, ticks, 0)
		}
		checkDelay(t, list, 1, 0)
		checkDelay(t, list, 1000, 0)
		checkNoDelay(t, list, 0)
		checkMerged(t, list, nil, nil)
		checkMerged(t, list, arrivalsOf(3, 4, 3, 5), arrivalsOf(3, 4, 3, 5))
		checkMerged(t, arrivalsOf(3, 4, 3, 5), list, arrivalsOf(3, 4, 3, 5))
	}
}

// TestArrivalsAtOneTime has arrivals between which no tokens come in, and nothing is sent.
func TestArrivalsAtOneTime(t *testing.T) {
	for _, time := range []int{0, 1, 7, 9999, 10000} {
		for _, count := range []int{2, 3, 31, 32} {
			for _, size := range []int{1, 10, 99, 100} {
				list, sum := arrivalsAt(time, size, count), size*count
				for _, rate := range []int{0, 1, 100, 1000} {
					checkConforms(t, list, rate, sum, true)
					checkConforms(t, list, rate, sum-1, false)
					checkLeastBurst(t, list, rate, sum)
					checkShaped(t, list, rate, sum, list)
				}
				checkLeastRate(t, list, sum, 0)
				checkNoRate(t, list, sum-1)
				checkPeak(t, list, 1, sum)
				checkPeak(t, list, 10001, sum)
				checkDelay(t, list, 1, sum)
				checkDelay(t, list, sum/count, count)
			}
		}
	}
	checkShaped(t, arrivalsAt(7, 10, 4), 10, 10, arrivalsOf(7, 10, 8, 10, 9, 10, 10, 10))
	checkShaped(t, arrivalsAt(7, 10, 4), 10, 20, arrivalsOf(7, 10, 7, 10, 8, 10, 9, 10))
	checkShaped(t, arrivalsAt(7, 10, 4), 9, 20, arrivalsOf(7, 10, 7, 10, 9, 10, 10, 10))
	checkShaped(t, arrivalsAt(7, 10, 4), 20, 20, arrivalsOf(7, 10, 7, 10, 8, 10, 8, 10))
}

func TestRateWithoutTokens(t *testing.T) {
	for _, list := range validArrivals() {
		sum := bytesOfArrivals(list)
		checkLeastBurst(t, list, 0, max(sum, 1))
		checkLeastRate(t, list, max(sum, 1), 0)
		checkLeastRate(t, list, 10000, 0)
		checkConforms(t, list, 0, max(sum, 1), true)
		checkShaped(t, list, 0, max(sum, 1), list)
		checkNoDelay(t, list, 0)
		if sum > 1 {
			checkConforms(t, list, 0, sum-1, false)
			checkNotShaped(t, list, 0, sum-1)
		}
	}
}

func TestArrivalGreaterThanTheBurst(t *testing.T) {
	for size := 2; size <= 100; size++ {
		for _, time := range []int{0, 7, 10000} {
			for _, list := range [][]impl.Arrival{arrivalsOf(time, size), arrivalsOf(0, 1, time, size), arrivalsOf(time, size, 10000, 1)} {
				for _, rate := range []int{0, 1, 1000} {
					checkConforms(t, list, rate, size-1, false)
					checkNotShaped(t, list, rate, size-1)
				}
				checkNoRate(t, list, size-1)
			}
		}
		checkConforms(t, arrivalsOf(7, size), 0, size, true)
		checkShaped(t, arrivalsOf(7, size), 0, size, arrivalsOf(7, size))
		checkShaped(t, arrivalsOf(7, 1, 7, size), 1, size, arrivalsOf(7, 1, 8, size))
		checkLeastRate(t, arrivalsOf(7, size), size, 0)
		checkLeastRate(t, arrivalsOf(7, 1, 8, size), size, 1)
		checkDelay(t, arrivalsOf(7, size), 1, size)
	}
}

// TestSmallEnvelopes compares all small arrivals with what is made by hand.
func TestSmallEnvelopes(t *testing.T) {
	for _, list := range smallArrivals() {
		for rate := range 5 {
			for burst := 1; burst <= 9; burst++ {
				checkEnvelopes(t, list, rate, burst)
			}
		}
	}
}

func TestMixedEnvelopes(t *testing.T) {
	for seed := range 90 {
		list := mixedArrivals(seed)
		for _, rate := range []int{0, 1, 2, 5, 17, 60, 1000} {
			for _, burst := range []int{1, 3, 30, 99, 100, 150, 1000} {
				checkEnvelopes(t, list, rate, burst)
			}
		}
	}
}

func TestEnvelopesAtTheLimits(t *testing.T) {
	for _, list := range limitArrivals() {
		for _, rate := range []int{0, 1, 100, 999, 1000} {
			for _, burst := range []int{1, 99, 100, 1600, 3199, 3200, 10000} {
				checkEnvelopes(t, list, rate, burst)
			}
		}
	}
}

// TestRatesAndBurstsJustMeetTheirBounds takes one off each least number.
func TestRatesAndBurstsJustMeetTheirBounds(t *testing.T) {
	for _, list := range append(validArrivals(), smallArrivals()...) {
		for _, rate := range []int{0, 1, 2, 10, 999, 1000} {
			burst := burstByHand(list, rate)
			checkLeastBurst(t, list, rate, burst)
			checkConforms(t, list, rate, burst, true)
			checkShaped(t, list, rate, burst, list)
			if burst > 1 {
				checkConforms(t, list, rate, burst-1, false)
			}
			checkRateAlike(t, list, burst)
		}
	}
}

// TestRowsInTheMiddle has a row of many bytes with few in front and behind, which needs the greatest burst.
func TestRowsInTheMiddle(t *testing.T) {
	list := arrivalsOf(0, 10, 10, 50, 11, 60, 12, 40, 30, 20)
	checkLeastBurst(t, list, 5, 140)
	checkLeastBurst(t, list, 1, 150)
	checkLeastBurst(t, list, 2, 146)
	checkLeastBurst(t, list, 0, 180)
	checkLeastBurst(t, list, 60, 60)
	checkLeastBurst(t, list, 1000, 60)
	checkLeastRate(t, list, 140, 5)
	checkLeastRate(t, list, 60, 50)
	checkLeastRate(t, list, 61, 49)
	checkLeastRate(t, list, 180, 0)
	checkNoRate(t, list, 59)
	checkDelay(t, list, 5, 28)
	checkDelay(t, list, 28, 4)
	checkDelay(t, list, 60, 1)
	checkPeak(t, list, 2, 110)
	checkPeak(t, list, 3, 150)
	checkPeak(t, list, 12, 150)
	checkPeak(t, list, 13, 160)
	checkPeak(t, list, 20, 160)
	checkPeak(t, list, 21, 170)
	checkPeak(t, list, 30, 170)
	checkPeak(t, list, 31, 180)
}

func TestRatesBeyondTheLastOne(t *testing.T) {
	list := append(arrivalsAt(7, 100, 11), arrivalsAt(8, 100, 11)...)
	checkLeastRate(t, list, 1200, 1000)
	checkLeastRate(t, list, 1201, 999)
	checkNoRate(t, list, 1199)
	checkNoRate(t, list, 1100)
	checkNoRate(t, list, 1)
	checkConforms(t, list, 1000, 1200, true)
	checkConforms(t, list, 1000, 1199, false)
	checkConforms(t, list, 999, 1200, false)
	checkLeastBurst(t, list, 1000, 1200)
	far := append(arrivalsAt(7, 100, 11), arrivalsAt(9, 100, 11)...)
	checkLeastRate(t, far, 1200, 500)
	checkLeastRate(t, far, 1100, 550)
	checkLeastRate(t, far, 1101, 550)
	checkLeastRate(t, far, 1102, 549)
	checkNoRate(t, far, 1099)
}

func TestEveryRateIsFound(t *testing.T) {
	for rate := range 1001 {
		whole, rest := rate/100, rate%100
		list := arrivalsAt(3, 100, whole+1)
		list = append(list, arrivalsAt(4, 100, whole)...)
		if rest > 0 {
			list = append(list, impl.Arrival{Time: 4, Size: rest})
		}
		checkLeastRate(t, list, 100*(whole+1), rate)
	}
}

// TestBucketOfEnvelopesIsNeverMoreThanFull waits long in front of arrivals, which does not help.
func TestBucketOfEnvelopesIsNeverMoreThanFull(t *testing.T) {
	for _, time := range []int{1, 100, 10000} {
		checkConforms(t, arrivalsAt(time, 50, 3), 10, 100, false)
		checkConforms(t, append(arrivalsAt(0, 50, 2), arrivalsAt(time, 50, 2)...), 100, 100, true)
		checkConforms(t, append(arrivalsAt(0, 50, 2), arrivalsAt(time, 50, 3)...), 100, 100, false)
	}
	checkShaped(t, arrivalsAt(10, 50, 3), 10, 100, arrivalsOf(10, 50, 10, 50, 15, 50))
	checkShaped(t, arrivalsAt(9990, 50, 3), 10, 100, arrivalsOf(9990, 50, 9990, 50, 9995, 50))
	checkShaped(t, arrivalsOf(0, 100, 11, 100, 11, 1), 10, 100, arrivalsOf(0, 100, 11, 100, 12, 1))
}

func TestShapedAtTheLastTime(t *testing.T) {
	checkShaped(t, arrivalsOf(9990, 50, 9990, 100), 10, 100, arrivalsOf(9990, 50, 9995, 100))
	checkShaped(t, arrivalsOf(9995, 50, 9995, 100), 10, 100, arrivalsOf(9995, 50, 10000, 100))
	checkNotShaped(t, arrivalsOf(9996, 50, 9996, 100), 10, 100)
	checkShaped(t, arrivalsOf(9995, 50, 9995, 50, 9999, 50), 10, 100, arrivalsOf(9995, 50, 9995, 50, 10000, 50))
	checkNotShaped(t, arrivalsOf(9995, 50, 9995, 50, 9999, 51), 10, 100)
	checkNotShaped(t, arrivalsOf(9995, 50, 9995, 50, 9999, 51, 10000, 1), 10, 100)
	checkShaped(t, arrivalsOf(10000, 50, 10000, 50), 0, 100, arrivalsOf(10000, 50, 10000, 50))
	checkNotShaped(t, arrivalsOf(10000, 50, 10000, 51), 1000, 100)
	checkShaped(t, arrivalsOf(9999, 50, 9999, 51), 1, 100, arrivalsOf(9999, 50, 10000, 51))
	checkNotShaped(t, arrivalsOf(9999, 50, 9999, 52), 1, 100)
	checkNotShaped(t, arrivalsOf(0, 50, 10000, 60, 10000, 60), 1, 100)
	checkShaped(t, append(arrivalsOf(6900, 100), arrivalsAt(6900, 100, 31)...), 1, 100, spacedBy(100, 6900, 32))
	checkNotShaped(t, append(arrivalsOf(6901, 100), arrivalsAt(6901, 100, 31)...), 1, 100)
}

// spacedBy returns count arrivals of 100 bytes with a number of ticks from one to the next one.
func spacedBy(ticks int, first int, count int) []impl.Arrival {
	var list []impl.Arrival
	for i := range count {
		list = append(list, impl.Arrival{Time: first + i*ticks, Size: 100})
	}
	return list
}

// TestSmallArrivalsDoNotOvertake has a small arrival behind a great one, for which there would be enough tokens at once.
func TestSmallArrivalsDoNotOvertake(t *testing.T) {
	checkShaped(t, arrivalsOf(0, 60, 1, 60, 2, 10), 10, 60, arrivalsOf(0, 60, 6, 60, 7, 10))
	checkShaped(t, arrivalsOf(0, 60, 1, 60, 2, 10), 10, 70, arrivalsOf(0, 60, 5, 60, 6, 10))
	checkShaped(t, arrivalsOf(0, 60, 1, 60, 2, 10), 10, 110, arrivalsOf(0, 60, 1, 60, 2, 10))
	checkShaped(t, arrivalsOf(0, 50, 0, 60, 0, 1, 5, 40), 7, 60, arrivalsOf(0, 50, 8, 60, 9, 1, 14, 40))
	checkShaped(t, arrivalsOf(0, 50, 0, 60, 0, 6, 30, 40), 7, 60, arrivalsOf(0, 50, 8, 60, 9, 6, 30, 40))
}

// checkFirstTimes expects that no one of the shaped arrivals could come a tick earlier, behind its own time and the one in front of it.
func checkFirstTimes(t *testing.T, list []impl.Arrival, shaped []impl.Arrival, rate int, burst int) {
	t.Helper()
	earliest := 0
	for i, a := range shaped {
		if a.Size != list[i].Size || a.Time < list[i].Time || a.Time < earliest {
			t.Fatalf("%v becomes %v", list, shaped)
		}
		if a.Time > max(list[i].Time, earliest) {
			earlier := append(slices.Clone(shaped[:i]), impl.Arrival{Time: a.Time - 1, Size: a.Size})
			checkConforms(t, earlier, rate, burst, false)
		}
		earliest = a.Time
	}
}

// TestArrivalsThatAreShapedConform is the promise of the chapter, for arrivals with any rates and bursts.
func TestArrivalsThatAreShapedConform(t *testing.T) {
	shapedLists, delayed := 0, 0
	for seed := range 300 {
		list := mixedArrivals(seed)
		for _, n := range numberRow(seed+1000, 20, 30000) {
			rate, burst := n%41, 1+n/41%250
			shaped, ok := impl.ShapeArrivals(list, rate, burst)
			if !ok {
				continue
			}
			if len(shaped) != len(list) || !impl.ArrivalsValid(shaped) {
				t.Fatalf("%v becomes %v", list, shaped)
			}
			checkConforms(t, shaped, rate, burst, true)
			checkShaped(t, shaped, rate, burst, shaped)
			checkFirstTimes(t, list, shaped, rate, burst)
			if needed, _ := impl.LeastBurst(shaped, rate); needed > burst {
				t.Errorf("%v needs the burst %d, not %d", shaped, needed, burst)
			}
			if fits, _ := impl.Conforms(list, rate, burst); fits != slices.Equal(shaped, list) {
				t.Errorf("%v conforms: %v, and becomes %v", list, fits, shaped)
			}
			shapedLists++
			if !slices.Equal(shaped, list) {
				delayed++
			}
		}
	}
	if shapedLists < 1000 || delayed < 500 {
		t.Errorf("only %d lists are shaped, of which %d are delayed", shapedLists, delayed)
	}
}

func TestMergedArrivals(t *testing.T) {
	small := smallArrivals()
	for i, a := range small[:60] {
		for _, b := range small {
			checkMergedAlike(t, a, b)
		}
		checkMergedAlike(t, small[i*10], a)
	}
	for seed := range 200 {
		checkMergedAlike(t, mixedArrivals(seed), mixedArrivals(seed+7))
		checkMergedAlike(t, mixedArrivals(seed), mixedArrivals(seed))
	}
}

func TestMergedArrivalsOfEqualTimes(t *testing.T) {
	a, b := arrivalsOf(0, 1, 5, 2, 5, 3, 9, 4), arrivalsOf(0, 5, 0, 6, 5, 7, 8, 8, 9, 9)
	checkMerged(t, a, b, arrivalsOf(0, 1, 0, 5, 0, 6, 5, 2, 5, 3, 5, 7, 8, 8, 9, 4, 9, 9))
	checkMerged(t, b, a, arrivalsOf(0, 5, 0, 6, 0, 1, 5, 7, 5, 2, 5, 3, 8, 8, 9, 9, 9, 4))
	var first, second []impl.Arrival
	for i := range 16 {
		first = append(first, impl.Arrival{Time: 10000, Size: 16 - i})
		second = append(second, impl.Arrival{Time: 10000, Size: 84 + i})
	}
	checkMerged(t, first, second, append(slices.Clone(first), second...))
	checkMerged(t, second, first, append(slices.Clone(second), first...))
}

func TestNoMoreThan32ArrivalsAreMerged(t *testing.T) {
	for count := range 33 {
		for other := range 33 {
			checkMergedAlike(t, arrivalsAt(5, 1, count), arrivalsAt(count%10, 2, other))
		}
	}
	checkMerged(t, arrivalsAt(5, 1, 32), nil, arrivalsAt(5, 1, 32))
	checkMerged(t, nil, arrivalsAt(5, 1, 32), arrivalsAt(5, 1, 32))
	checkMerged(t, arrivalsAt(5, 1, 16), arrivalsAt(5, 1, 16), arrivalsAt(5, 1, 32))
	checkNotMerged(t, arrivalsAt(5, 1, 32), arrivalsOf(5, 1))
	checkNotMerged(t, arrivalsOf(5, 1), arrivalsAt(5, 1, 32))
	checkNotMerged(t, arrivalsAt(5, 1, 16), arrivalsAt(5, 1, 17))
	checkNotMerged(t, arrivalsAt(5, 1, 32), arrivalsAt(5, 1, 32))
}

func TestPeaksOfSmallArrivals(t *testing.T) {
	for i, list := range smallArrivals() {
		if i%3 > 0 {
			continue
		}
		for ticks := 1; ticks <= 5; ticks++ {
			checkPeak(t, list, ticks, peakByHand(list, ticks))
		}
	}
}

func TestPeaksOfMixedArrivals(t *testing.T) {
	for seed := range 50 {
		list := mixedArrivals(seed)
		for _, ticks := range []int{1, 2, 3, 7, 40, 300, 10001} {
			checkPeak(t, list, ticks, peakByHand(list, ticks))
		}
	}
}

// TestEndsOfPeaks has arrivals that are just within the ticks, or just behind them.
func TestEndsOfPeaks(t *testing.T) {
	for _, ticks := range []int{1, 2, 3, 5, 100, 4999, 9999, 10000, 10001} {
		for _, first := range []int{0, 1, 5, 5000} {
			if first+ticks <= 10001 {
				checkPeak(t, arrivalsOf(first, 30, first+ticks-1, 20), ticks, 50)
			}
			if first+ticks <= 10000 {
				checkPeak(t, arrivalsOf(first, 30, first+ticks, 20), ticks, 30)
				checkPeak(t, arrivalsOf(first, 20, first+ticks, 30), ticks, 30)
				checkPeak(t, arrivalsOf(first, 20, first+ticks, 30), ticks+1, 50)
			}
		}
	}
	checkPeak(t, arrivalsOf(0, 30, 10000, 20), 10001, 50)
	checkPeak(t, arrivalsOf(0, 30, 10000, 20), 10000, 30)
	checkPeak(t, arrivalsOf(0, 10, 1, 20, 3, 30), 2, 30)
	checkPeak(t, arrivalsOf(0, 10, 1, 20, 3, 30), 3, 50)
	checkPeak(t, arrivalsOf(0, 10, 1, 20, 3, 30), 4, 60)
	checkPeak(t, arrivalsOf(10000, 100), 10001, 100)
	checkPeak(t, arrivalsAt(10000, 100, 32), 1, 3200)
}

// TestDelaysAreRoundedUp has bytes that just take some ticks, and one more.
func TestDelaysAreRoundedUp(t *testing.T) {
	for rate := 1; rate <= 100; rate++ {
		for size := 1; size <= 100; size++ {
			want := size / rate
			if size%rate > 0 {
				want++
			}
			checkDelay(t, arrivalsOf(3, size), rate, want)
		}
	}
	checkDelay(t, arrivalsAt(10000, 100, 32), 1000, 4)
	checkDelay(t, arrivalsAt(10000, 100, 30), 1000, 3)
	checkDelay(t, append(arrivalsAt(10000, 100, 30), arrivalsOf(10000, 1)...), 1000, 4)
	checkDelay(t, arrivalsAt(10000, 100, 32), 1, 3200)
	checkDelay(t, arrivalsAt(10000, 100, 32), 999, 4)
}

// TestServerDoesNotSaveTicks has times without anything to send, in which a server sends nothing for later.
func TestServerDoesNotSaveTicks(t *testing.T) {
	checkDelay(t, arrivalsOf(0, 20, 1, 20, 2, 20), 20, 1)
	checkDelay(t, arrivalsOf(0, 21, 1, 20, 2, 20), 20, 2)
	checkDelay(t, arrivalsOf(0, 20, 1, 20, 2, 21), 20, 2)
	checkDelay(t, arrivalsOf(0, 1, 100, 60), 20, 3)
	checkDelay(t, arrivalsOf(100, 60), 20, 3)
	checkDelay(t, arrivalsOf(0, 60, 2, 60, 10, 50), 20, 4)
	checkDelay(t, arrivalsOf(0, 60, 3, 60, 10, 50), 20, 3)
	// Only a part of the first tick is left for the second arrival, and the rest of it takes another one.
	checkDelay(t, arrivalsOf(0, 15, 0, 10, 1, 10), 20, 2)
	checkDelay(t, arrivalsOf(0, 15, 0, 5, 1, 20), 20, 1)
	checkDelay(t, arrivalsOf(0, 100, 9999, 100, 10000, 100), 1, 199)
}

func pieceOfArrivals(name string, list []impl.Arrival) memoryPiece {
	return pieceOf(name, list, impl.Arrival{Time: 77, Size: 77}, func(a impl.Arrival) string { return fmt.Sprint(a) })
}

// arrivalPair is the arguments of a call with two lists.
type arrivalPair struct {
	a []impl.Arrival
	b []impl.Arrival
}

func piecesOfPair(pair arrivalPair) []memoryPiece {
	return []memoryPiece{pieceOfArrivals("a", pair.a), pieceOfArrivals("b", pair.b)}
}

// envelopeCalls returns, by name, calls with arrivals, each of which returns all memory of its result.
func envelopeCalls() map[string]func(pair arrivalPair) []memoryPiece {
	shape := func(rate int, burst int) func(pair arrivalPair) []memoryPiece {
		return func(pair arrivalPair) []memoryPiece {
			got, _ := impl.ShapeArrivals(pair.a, rate, burst)
			return []memoryPiece{pieceOfArrivals("shaped", got)}
		}
	}
	merge := func(pair arrivalPair) []memoryPiece {
		got, _ := impl.MergeArrivals(pair.a, pair.b)
		return []memoryPiece{pieceOfArrivals("merged", got)}
	}
	twice := func(pair arrivalPair) []memoryPiece {
		got, _ := impl.MergeArrivals(pair.a, pair.a)
		return []memoryPiece{pieceOfArrivals("merged", got)}
	}
	look := func(pair arrivalPair) []memoryPiece {
		return []memoryPiece{pieceOf("texts", []string{textOfEnvelopes(pair.a, 5, 50)}, "other", func(text string) string { return text })}
	}
	return map[string]func(pair arrivalPair) []memoryPiece{
		"ShapeArrivals": shape(5, 100), "ShapeArrivals of what conforms": shape(1000, 10000), "ShapeArrivals of what never comes": shape(0, 1),
		"ShapeArrivals of no bucket": shape(0, 0), "MergeArrivals": merge, "MergeArrivals of one list twice": twice, "all others": look,
	}
}

// memoryPairs returns lists with spare capacity, in which a careless append would write, and lists that are parts of one array.
func memoryPairs() []arrivalPair {
	var list []arrivalPair
	lists := append(limitArrivals()[:40], invalidArrivals()...)
	for seed := range 30 {
		lists = append(lists, mixedArrivals(seed))
	}
	for i, a := range lists {
		b := lists[(i+5)%len(lists)]
		list = append(list, arrivalPair{roomyArrivals(a), roomyArrivals(b)}, arrivalPair{roomyArrivals(a), nil}, arrivalPair{nil, roomyArrivals(a)})
		whole := roomyArrivals(a)
		list = append(list, arrivalPair{whole, whole}, arrivalPair{whole[:len(whole)/2], whole[len(whole)/2:]}, arrivalPair{whole[len(whole)/2:], whole[:len(whole)/2]})
	}
	return list
}

func roomyArrivals(list []impl.Arrival) []impl.Arrival {
	return append(slices.Clone(list), arrivalsAt(3, 9, 40)...)[:len(list)]
}

func TestArrivalsStayAsTheyAre(t *testing.T) {
	checkUnchanged(t, envelopeCalls(), memoryPairs(), piecesOfPair)
}

func TestResultsOfEnvelopesShareNoMemory(t *testing.T) {
	checkApart(t, envelopeCalls(), memoryPairs())
}

// textOfEnvelopes returns the results of all functions of arrivals.
func textOfEnvelopes(list []impl.Arrival, rate int, burst int) string {
	return fmt.Sprintln(impl.ArrivalsValid(list)) + fmt.Sprintln(impl.Conforms(list, rate, burst)) + fmt.Sprintln(impl.LeastBurst(list, rate)) +
		fmt.Sprintln(impl.LeastRate(list, burst)) + fmt.Sprintln(impl.ShapeArrivals(list, rate, burst)) + fmt.Sprintln(impl.MergeArrivals(list, list)) +
		fmt.Sprintln(impl.PeakOf(list, burst)) + fmt.Sprintln(impl.WorstDelay(list, rate))
}

// TestFunctionsOfEnvelopesKeepNothing calls all functions twice, with others in between.
func TestFunctionsOfEnvelopesKeepNothing(t *testing.T) {
	all := append(validArrivals(), invalidArrivals()...)
	var before []string
	for i, list := range all {
		before = append(before, textOfEnvelopes(list, i%50, i%120))
	}
	for i := range slices.Backward(all) {
		if second := textOfEnvelopes(all[i], i%50, i%120); second != before[i] {
			t.Errorf("the functions of %v return %q, and then %q", all[i], before[i], second)
		}
	}
}
