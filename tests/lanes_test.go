package tests

import (
	"fmt"
	"slices"
	"testing"

	"loop.example/trafficguard/impl"
)

// setLane gives all packets of a robin this lane, in the same memory.
func setLane(r impl.Robin, lane int) impl.Robin {
	for _, f := range r.Flows {
		for i := range f.Waits {
			f.Waits[i].Lane = lane
		}
	}
	return r
}

// lanesMade returns lanes with these robins, whose packets get the lanes of their places.
func lanesMade(weights []int, credits []int, robins ...impl.Robin) impl.Lanes {
	l := impl.Lanes{Weights: slices.Clone(weights), Credits: slices.Clone(credits)}
	for lane, r := range robins {
		l.Robins = append(l.Robins, setLane(copiedRobin(r), lane))
	}
	return l
}

// emptyLanes returns lanes whose robins have no packets.
func emptyLanes(weights []int, credits []int) impl.Lanes {
	return lanesMade(weights, credits, slices.Repeat([]impl.Robin{robinMade(50)}, 4)...)
}

// fullLanes returns lanes with as many packets as there may be.
func fullLanes(quantum int, weights []int, credits []int) impl.Lanes {
	return lanesMade(weights, credits, slices.Repeat([]impl.Robin{robinMade(quantum, flowsOfAll(0, 64, 100)...)}, 4)...)
}

// creditsOf returns all rows of credits for these weights.
func creditsOf(weights ...int) [][]int {
	rows := [][]int{nil}
	for _, weight := range weights {
		var longer [][]int
		for _, row := range rows {
			for credit := range weight + 1 {
				longer = append(longer, append(slices.Clone(row), credit))
			}
		}
		rows = longer
	}
	return rows
}

// smallLanes returns lanes in which any of the four have packets, with all credits for small weights.
func smallLanes() []impl.Lanes {
	var list []impl.Lanes
	for _, weights := range [][]int{{2, 1, 2, 1}, {1, 2, 1, 2}, {1, 1, 1, 3}} {
		for _, credits := range creditsOf(weights...) {
			for filled := range 16 {
				l := emptyLanes(weights, credits)
				for lane := range 4 {
					if filled>>lane%2 == 1 {
						l.Robins[lane] = setLane(robinMade(50, flowMade(lane, 0, 60), flowMade(lane+3, 0, 20, 40)), lane)
					}
				}
				list = append(list, l)
			}
		}
	}
	return list
}

// mixedLanes returns lanes with weights, credits and robins from a row of numbers, in which some have no packets.
func mixedLanes(seed int) impl.Lanes {
	row := numberRow(seed, 20, 1000)
	var weights, credits []int
	var robins []impl.Robin
	for lane := range 4 {
		weights = append(weights, 1+row[lane]%9)
		credits = append(credits, row[4+lane]%(weights[lane]+1))
		r := mixedRobin(7*seed + lane)
		if row[8+lane]%4 == 0 {
			r.Flows = nil
		}
		robins = append(robins, r)
	}
	return lanesMade(weights, credits, robins...)
}

func manyMixedLanes() []impl.Lanes {
	var list []impl.Lanes
	for seed := range 120 {
		list = append(list, mixedLanes(seed))
	}
	return list
}

// limitLanes returns valid lanes with fields or numbers of packets at their limits.
func limitLanes() []impl.Lanes {
	list := []impl.Lanes{fullLanes(1, []int{1, 9, 1, 9}, []int{0, 0, 0, 0}), fullLanes(500, []int{9, 9, 9, 9}, []int{9, 9, 9, 9})}
	for lane := range 4 {
		for _, weight := range []int{1, 2, 8, 9} {
			for _, credit := range []int{0, 1, weight - 1, weight} {
				weights, credits := []int{5, 5, 5, 5}, []int{0, 5, 0, 5}
				weights[lane], credits[lane] = weight, credit
				list = append(list, emptyLanes(weights, credits))
				l := lanesMade(weights, credits, robinMade(1), robinMade(500), robinMade(1), robinMade(500))
				l.Robins[lane] = setLane(robinMade(100, flowOfCount(7, 0, 64, 100), flowMade(0, 199, 1)), lane)
				list = append(list, l)
			}
		}
	}
	return list
}

func validLanes() []impl.Lanes {
	return slices.Concat(smallLanes(), manyMixedLanes(), limitLanes())
}

// lanesToSpoil returns valid lanes in memory of their own, with flows of 2 and 3 packets in each lane.
func lanesToSpoil() impl.Lanes {
	r := robinMade(50, flowMade(2, 0, 50, 50), flowMade(5, 149, 50, 50, 50))
	return lanesMade([]int{1, 9, 5, 9}, []int{1, 9, 0, 3}, r, r, r, r)
}

// invalidLanes returns lanes of which one field is wrong, at each place.
func invalidLanes() []impl.Lanes {
	var list []impl.Lanes
	spoil := func(how func(l *impl.Lanes)) {
		l := lanesToSpoil()
		how(&l)
		list = append(list, l)
	}
	for lane := range 4 {
		for _, n := range []int{-1, 0, 10, 11, leastInt, mostInt} {
			spoil(func(l *impl.Lanes) { l.Weights[lane] = n })
			spoil(func(l *impl.Lanes) { l.Weights[lane], l.Credits[lane] = n, 0 })
			spoil(func(l *impl.Lanes) { l.Weights[lane], l.Credits[lane] = n, n })
		}
		for _, n := range []int{-1, 10, leastInt, mostInt} {
			spoil(func(l *impl.Lanes) { l.Credits[lane] = n })
		}
		for weight := 1; weight < 9; weight++ {
			spoil(func(l *impl.Lanes) { l.Weights[lane], l.Credits[lane] = weight, weight+1 })
		}
		for other := range 4 {
			if other != lane {
				spoil(func(l *impl.Lanes) { l.Robins[lane] = l.Robins[other] })
			}
		}
	}
	return slices.Concat(list, lanesOfOtherLengths(), lanesWithWrongRobins(), lanesWithWrongPackets())
}

// lanesOfOtherLengths returns lanes that have too few or too many robins, weights or credits.
func lanesOfOtherLengths() []impl.Lanes {
	list := []impl.Lanes{{}, {Robins: []impl.Robin{}, Weights: []int{}, Credits: []int{}}}
	for _, count := range []int{0, 1, 2, 3, 5, 8} {
		// The fifth robin is one without packets, which would be right in each lane.
		whole := lanesMade(slices.Repeat([]int{2}, 8), slices.Repeat([]int{1}, 8), slices.Repeat([]impl.Robin{robinMade(50)}, 8)...)
		for filled := range 2 {
			l := emptyLanes([]int{2, 2, 2, 2}, []int{1, 1, 1, 1})
			if filled == 1 {
				l.Robins[0] = robinMade(50, flowMade(1, 0, 50))
				whole.Robins[0] = l.Robins[0]
			}
			list = append(list, impl.Lanes{Robins: whole.Robins[:count], Weights: l.Weights, Credits: l.Credits})
			list = append(list, impl.Lanes{Robins: l.Robins, Weights: whole.Weights[:count], Credits: l.Credits})
			list = append(list, impl.Lanes{Robins: l.Robins, Weights: l.Weights, Credits: whole.Credits[:count]})
			list = append(list, impl.Lanes{Robins: whole.Robins[:count], Weights: whole.Weights[:count], Credits: whole.Credits[:count]})
		}
	}
	return list
}

// lanesWithWrongRobins returns lanes with a robin that is not valid, whose packets have its lane.
func lanesWithWrongRobins() []impl.Lanes {
	var list []impl.Lanes
	for _, r := range invalidRobins() {
		for lane := range 4 {
			l := lanesToSpoil()
			l.Robins[lane] = setLane(copiedRobin(r), lane)
			// Where only the lane of a packet was wrong, nothing is now.
			if !impl.RobinValid(l.Robins[lane]) {
				list = append(list, l)
			}
		}
	}
	return list
}

// lanesWithWrongPackets returns lanes in which one packet has another lane, or none.
func lanesWithWrongPackets() []impl.Lanes {
	var list []impl.Lanes
	for lane := range 4 {
		for flow := range 2 {
			for place := range 2 + flow {
				for _, n := range []int{0, 1, 2, 3, 4, -1, leastInt, mostInt} {
					l := lanesToSpoil()
					l.Robins[lane].Flows[flow].Waits[place].Lane = n
					if n != lane {
						list = append(list, l)
					}
				}
			}
		}
	}
	return list
}

// sameLanes compares by hand, so that it does not depend on the program.
func sameLanes(a impl.Lanes, b impl.Lanes) bool {
	return slices.EqualFunc(a.Robins, b.Robins, sameRobin) && slices.Equal(a.Weights, b.Weights) && slices.Equal(a.Credits, b.Credits)
}

func isZeroLanes(l impl.Lanes) bool {
	return len(l.Robins) == 0 && len(l.Weights) == 0 && len(l.Credits) == 0
}

// copiedLanes returns lanes with memory of their own.
func copiedLanes(l impl.Lanes) impl.Lanes {
	robins := slices.Clone(l.Robins)
	for i, r := range robins {
		robins[i] = copiedRobin(r)
	}
	return impl.Lanes{Robins: robins, Weights: slices.Clone(l.Weights), Credits: slices.Clone(l.Credits)}
}

// countsByHand counts the packets of each lane.
func countsByHand(l impl.Lanes) []int {
	counts := make([]int, 4)
	for lane, r := range l.Robins {
		for _, f := range r.Flows {
			counts[lane] += len(f.Waits)
		}
	}
	return counts
}

// laneByHand lists the lanes with packets, those with a credit in front, and returns the first one, or -1.
func laneByHand(l impl.Lanes) int {
	var rich, poor []int
	for lane, count := range countsByHand(l) {
		if count > 0 && l.Credits[lane] >= 1 {
			rich = append(rich, lane)
		} else if count > 0 {
			poor = append(poor, lane)
		}
	}
	return append(append(rich, poor...), -1)[0]
}

// nextOfLanesByHand takes a packet of lanes that have some.
func nextOfLanesByHand(l impl.Lanes) (impl.Lanes, impl.Packet) {
	lane := laneByHand(l)
	next := impl.Lanes{Robins: slices.Clone(l.Robins), Weights: l.Weights, Credits: slices.Clone(l.Credits)}
	if l.Credits[lane] == 0 {
		next.Credits = slices.Clone(l.Weights)
	}
	next.Credits[lane]--
	var p impl.Packet
	next.Robins[lane], p = nextByHand(l.Robins[lane])
	return next, p
}

// takenOfLanesByHand takes packets one after the other, as long as there are any.
func takenOfLanesByHand(l impl.Lanes, count int) (impl.Lanes, []impl.Packet) {
	var taken []impl.Packet
	for len(taken) < count && laneByHand(l) >= 0 {
		next, p := nextOfLanesByHand(l)
		l, taken = next, append(taken, p)
	}
	return l, taken
}

// leftByHand returns lanes without the packets of a peer, and these packets.
func leftByHand(l impl.Lanes, peer int) (impl.Lanes, []impl.Packet) {
	left := impl.Lanes{Weights: l.Weights, Credits: l.Credits}
	var gone []impl.Packet
	for _, r := range l.Robins {
		rest, waits := waitingByHand(r, peer)
		left.Robins = append(left.Robins, rest)
		gone = append(gone, waits...)
	}
	return left, gone
}

// joinedLanesByHand returns lanes with a packet more.
func joinedLanesByHand(l impl.Lanes, p impl.Packet) impl.Lanes {
	l = copiedLanes(l)
	l.Robins[p.Lane] = joinedByHand(l.Robins[p.Lane], p)
	return l
}

func checkNotJoinedLanes(t *testing.T, l impl.Lanes, p impl.Packet) {
	t.Helper()
	if got, ok := impl.JoinLanes(l, p); ok || !isZeroLanes(got) {
		t.Errorf("JoinLanes(%v, %v) = %v, %v", l, p, got, ok)
	}
}

// checkNothingNext expects that no lane has a packet that may be taken.
func checkNothingNext(t *testing.T, l impl.Lanes) {
	t.Helper()
	if lane, ok := impl.NextLane(l); ok || lane != 0 {
		t.Errorf("NextLane(%v) = %d, %v", l, lane, ok)
	}
	if got, p, ok := impl.NextOfLanes(l); ok || p != (impl.Packet{}) || !isZeroLanes(got) {
		t.Errorf("NextOfLanes(%v) = %v, %v, %v", l, got, p, ok)
	}
}

func checkNotTakenLanes(t *testing.T, l impl.Lanes, count int) {
	t.Helper()
	if got, taken, ok := impl.TakeLanes(l, count); ok || len(taken) != 0 || !isZeroLanes(got) {
		t.Errorf("TakeLanes(%v, %d) = %v, %v, %v", l, count, got, taken, ok)
	}
}

func checkNotLeftLanes(t *testing.T, l impl.Lanes, peer int) {
	t.Helper()
	if got, gone, ok := impl.LeaveLanes(l, peer); ok || len(gone) != 0 || !isZeroLanes(got) {
		t.Errorf("LeaveLanes(%v, %d) = %v, %v, %v", l, peer, got, gone, ok)
	}
}

func checkJoinedLanes(t *testing.T, l impl.Lanes, p impl.Packet) {
	t.Helper()
	got, ok := impl.JoinLanes(l, p)
	if want := joinedLanesByHand(l, p); !ok || !sameLanes(got, want) || !impl.LanesValid(got) {
		t.Errorf("JoinLanes(%v, %v) = %v, %v, want %v", l, p, got, ok, want)
	}
}

func checkNextLane(t *testing.T, l impl.Lanes, want int) {
	t.Helper()
	if lane, ok := impl.NextLane(l); !ok || lane != want {
		t.Errorf("NextLane(%v) = %d, %v, want %d", l, lane, ok, want)
	}
}

// checkNextOfLanes returns the lanes that are left.
func checkNextOfLanes(t *testing.T, l impl.Lanes, want impl.Lanes, packet impl.Packet) impl.Lanes {
	t.Helper()
	got, p, ok := impl.NextOfLanes(l)
	if !ok || p != packet || !sameLanes(got, want) || !impl.LanesValid(got) {
		t.Fatalf("NextOfLanes(%v) = %v, %v, %v, want %v, %v", l, got, p, ok, want, packet)
	}
	return got
}

func checkTakenLanes(t *testing.T, l impl.Lanes, count int, want impl.Lanes, list []impl.Packet) {
	t.Helper()
	got, taken, ok := impl.TakeLanes(l, count)
	if !ok || !sameLanes(got, want) || !slices.Equal(taken, list) || !impl.LanesValid(got) {
		t.Errorf("TakeLanes(%v, %d) = %v, %v, %v, want %v, %v", l, count, got, taken, ok, want, list)
	}
}

// checkLanesTaken expects these lanes of the packets that are taken, and these credits behind them.
func checkLanesTaken(t *testing.T, l impl.Lanes, count int, lanes []int, credits ...int) {
	t.Helper()
	got, taken, ok := impl.TakeLanes(l, count)
	var from []int
	for _, p := range taken {
		from = append(from, p.Lane)
	}
	if !ok || !slices.Equal(from, lanes) || !slices.Equal(got.Credits, credits) || !slices.Equal(got.Weights, l.Weights) {
		t.Errorf("TakeLanes(%v, %d) = %v, %v of the lanes %v, %v, want the lanes %v, and the credits %v", l, count, got, taken, from, ok, lanes, credits)
	}
}

func TestWeightLimitConstant(t *testing.T) {
	if impl.MaxWeight != 9 {
		t.Errorf("MaxWeight = %d", impl.MaxWeight)
	}
}

func TestLanesWithinTheLimitsAreValid(t *testing.T) {
	for _, l := range append(validLanes(), lanesToSpoil()) {
		if !impl.LanesValid(l) {
			t.Errorf("LanesValid(%v) = false", l)
		}
	}
}

func TestInvalidLanesAreRefused(t *testing.T) {
	for _, l := range invalidLanes() {
		if impl.LanesValid(l) {
			t.Errorf("LanesValid(%v) = true", l)
		}
		checkNothingNext(t, l)
		if counts, ok := impl.CountLanes(l); ok || len(counts) != 0 {
			t.Errorf("CountLanes(%v) = %v, %v", l, counts, ok)
		}
		for lane := range 4 {
			checkNotJoinedLanes(t, l, impl.Packet{Peer: 1, Lane: lane, Size: 5})
		}
		checkNotJoinedLanes(t, l, impl.Packet{})
		for _, count := range []int{0, 1, 2, mostInt, -1, leastInt} {
			checkNotTakenLanes(t, l, count)
		}
		for _, peer := range append(refusedPeers(), 0, 1, 2, 5, 7) {
			checkNotLeftLanes(t, l, peer)
		}
	}
}

func TestNewLanesHaveNoPackets(t *testing.T) {
	for _, quantum := range []int{1, 2, 50, 499, 500} {
		for _, weights := range [][]int{{1, 1, 1, 1}, {9, 9, 9, 9}, {2, 1, 1, 1}, {9, 8, 7, 6}, {1, 9, 1, 9}, {4, 3, 2, 5}} {
			l, ok := impl.NewLanes(quantum, weights)
			want := lanesMade(weights, weights, slices.Repeat([]impl.Robin{robinMade(quantum)}, 4)...)
			if !ok || !sameLanes(l, want) || !impl.LanesValid(l) {
				t.Errorf("NewLanes(%d, %v) = %v, %v", quantum, weights, l, ok)
			}
			checkNothingNext(t, l)
		}
	}
}

func TestNewLanesRefusesWhatIsNotValid(t *testing.T) {
	check := func(quantum int, weights []int) {
		t.Helper()
		if l, ok := impl.NewLanes(quantum, weights); ok || !isZeroLanes(l) {
			t.Errorf("NewLanes(%d, %v) = %v, %v", quantum, weights, l, ok)
		}
	}
	for _, quantum := range []int{-1, 0, 501, 502, leastInt, mostInt} {
		check(quantum, []int{2, 1, 1, 1})
		check(quantum, nil)
	}
	for lane := range 4 {
		for _, n := range []int{-1, 0, 10, 11, leastInt, mostInt} {
			weights := []int{2, 9, 1, 5}
			weights[lane] = n
			check(100, weights)
		}
	}
	for _, count := range []int{0, 1, 2, 3, 5, 6, 8, 1000} {
		check(100, slices.Repeat([]int{1}, count))
	}
	check(100, nil)
}

// otherLanes returns lanes that differ from valid ones in one thing each.
func otherLanes(l impl.Lanes) []impl.Lanes {
	list := []impl.Lanes{{}, {Robins: l.Robins}, {Weights: l.Weights}, {Credits: l.Credits}, {Robins: l.Robins, Weights: l.Credits, Credits: l.Weights}}
	change := func(how func(b *impl.Lanes)) {
		b := copiedLanes(l)
		how(&b)
		list = append(list, b)
	}
	change(func(b *impl.Lanes) { b.Robins = nil })
	change(func(b *impl.Lanes) { b.Weights = nil })
	change(func(b *impl.Lanes) { b.Credits = nil })
	change(func(b *impl.Lanes) { b.Robins = append(b.Robins, b.Robins[3]) })
	change(func(b *impl.Lanes) { b.Robins = append(b.Robins, impl.Robin{}) })
	change(func(b *impl.Lanes) { b.Weights = append(b.Weights, 0) })
	change(func(b *impl.Lanes) { b.Credits = append(b.Credits, 0) })
	for lane := range 4 {
		change(func(b *impl.Lanes) { b.Robins = slices.Delete(b.Robins, lane, lane+1) })
		change(func(b *impl.Lanes) { b.Weights = slices.Delete(b.Weights, lane, lane+1) })
		change(func(b *impl.Lanes) { b.Credits = slices.Delete(b.Credits, lane, lane+1) })
		change(func(b *impl.Lanes) { b.Weights[lane]++ })
		change(func(b *impl.Lanes) { b.Credits[lane]-- })
		for _, r := range otherRobins(l.Robins[lane]) {
			change(func(b *impl.Lanes) { b.Robins[lane] = r })
		}
	}
	return list
}

func TestLanesSameComparesAllFields(t *testing.T) {
	a := lanesToSpoil()
	if !impl.LanesSame(a, a) || !impl.LanesSame(a, copiedLanes(a)) {
		t.Error("equal lanes are not the same")
	}
	for _, b := range otherLanes(a) {
		if impl.LanesSame(a, b) || impl.LanesSame(b, a) {
			t.Errorf("%v and %v are the same", a, b)
		}
	}
}

func TestLanesSameAcceptsInvalidLanes(t *testing.T) {
	all := slices.Concat(lanesOfOtherLengths(), lanesWithWrongPackets(), lanesWithWrongRobins())
	for i, a := range all {
		if !impl.LanesSame(a, copiedLanes(a)) {
			t.Errorf("%v is not the same as its copy", a)
		}
		for j := i % 23; j < len(all); j += 23 {
			if got := impl.LanesSame(a, all[j]); got != sameLanes(a, all[j]) {
				t.Errorf("LanesSame(%v, %v) = %v", a, all[j], got)
			}
		}
	}
	empty := impl.Lanes{Robins: []impl.Robin{}, Weights: []int{}, Credits: []int{}}
	if !impl.LanesSame(impl.Lanes{}, empty) || !impl.LanesSame(empty, impl.Lanes{}) {
		t.Error("nil slices and empty slices are not the same")
	}
	a, b := impl.Lanes{Robins: []impl.Robin{{}}}, impl.Lanes{Robins: []impl.Robin{{Flows: []impl.Flow{}}}}
	if !impl.LanesSame(a, b) || impl.LanesSame(a, impl.Lanes{}) {
		t.Error("a robin without flows is not compared")
	}
}

func TestPacketsJoinTheirLane(t *testing.T) {
	for _, l := range slices.Concat(manyMixedLanes(), smallLanes()[:100], []impl.Lanes{lanesToSpoil()}) {
		for _, p := range validPackets() {
			checkJoinedLanes(t, l, p)
		}
		for lane := range 4 {
			for peer := range 8 {
				checkJoinedLanes(t, l, impl.Packet{Peer: peer, Lane: lane, Size: 7, Id: 70})
			}
		}
	}
}

func TestNoMoreThan64PacketsOfAPeerInALane(t *testing.T) {
	full := fullLanes(100, []int{2, 1, 1, 1}, []int{2, 1, 1, 1})
	for lane := range 4 {
		for peer := range 8 {
			p := impl.Packet{Peer: peer, Lane: lane, Size: 1, Id: 9}
			checkNotJoinedLanes(t, full, p)
			l := emptyLanes([]int{2, 1, 1, 1}, []int{2, 1, 1, 1})
			l.Robins[lane] = setLane(robinMade(50, flowOfCount(peer, 0, 64, 1)), lane)
			checkNotJoinedLanes(t, l, p)
			// Packets of other peers and in other lanes are not counted.
			checkJoinedLanes(t, l, impl.Packet{Peer: (peer + 1) % 8, Lane: lane, Size: 1})
			checkJoinedLanes(t, l, impl.Packet{Peer: peer, Lane: (lane + 1) % 4, Size: 1})
			l.Robins[lane].Flows[0].Waits = l.Robins[lane].Flows[0].Waits[1:]
			checkJoinedLanes(t, l, p)
			l = copiedLanes(full)
			l.Robins[lane].Flows[peer].Waits = l.Robins[lane].Flows[peer].Waits[:63]
			checkJoinedLanes(t, l, p)
		}
	}
}

func TestInvalidPacketsDoNotJoinLanes(t *testing.T) {
	for _, l := range slices.Concat(limitLanes(), manyMixedLanes()[:20]) {
		for _, p := range invalidPackets() {
			checkNotJoinedLanes(t, l, p)
		}
	}
}

func TestTurnsOfSmallLanes(t *testing.T) {
	for _, l := range slices.Concat(smallLanes(), manyMixedLanes(), limitLanes()) {
		want := laneByHand(l)
		if want < 0 {
			checkNothingNext(t, l)
			continue
		}
		checkNextLane(t, l, want)
		next, p := nextOfLanesByHand(l)
		checkNextOfLanes(t, l, next, p)
	}
}

func TestExampleOfLanes(t *testing.T) {
	l, _ := impl.NewLanes(100, []int{2, 1, 1, 1})
	for id := range 6 {
		for lane := range 2 {
			l, _ = impl.JoinLanes(l, impl.Packet{Lane: lane, Size: 10, Id: id})
		}
	}
	_, taken, ok := impl.TakeLanes(l, 9)
	if want := "0/0:10#0 0/0:10#1 0/1:10#0 0/0:10#2 0/0:10#3 0/1:10#1 0/0:10#4 0/0:10#5 0/1:10#2"; !ok || textsOf(taken) != want {
		t.Errorf("TakeLanes = %q, %v", textsOf(taken), ok)
	}
}

// TestLanesWithoutCredits has lanes with packets that have no credit, so that all credits become the weights.
func TestLanesWithoutCredits(t *testing.T) {
	waits := robinMade(100, flowMade(1, 0, 10, 10, 10, 10))
	none := robinMade(100)
	l := lanesMade([]int{2, 3, 4, 5}, []int{0, 0, 0, 0}, none, waits, none, waits)
	checkNextLane(t, l, 1)
	checkLanesTaken(t, l, 0, nil, 0, 0, 0, 0)
	checkLanesTaken(t, l, 1, []int{1}, 2, 2, 4, 5)
	checkLanesTaken(t, l, 4, []int{1, 1, 1, 3}, 2, 0, 4, 4)
	// Credits of lanes that have no packets do not count, and become the weights as well.
	l.Credits = []int{1, 0, 3, 0}
	checkNextLane(t, l, 1)
	checkLanesTaken(t, l, 1, []int{1}, 2, 2, 4, 5)
	// As long as a lane with packets has a credit, no other one with packets gets any.
	l.Credits = []int{0, 0, 0, 1}
	checkNextLane(t, l, 3)
	checkLanesTaken(t, l, 1, []int{3}, 0, 0, 0, 0)
	checkLanesTaken(t, l, 2, []int{3, 1}, 2, 2, 4, 5)
	l.Credits = []int{2, 1, 4, 1}
	checkLanesTaken(t, l, 2, []int{1, 3}, 2, 0, 4, 0)
	checkLanesTaken(t, l, 3, []int{1, 3, 1}, 2, 2, 4, 5)
	// The last credits are not given back before there is a packet to take.
	l = lanesMade([]int{2, 3, 4, 5}, []int{0, 0, 0, 1}, none, none, none, robinMade(100, flowMade(1, 0, 10)))
	checkLanesTaken(t, l, 1, []int{3}, 0, 0, 0, 0)
	checkLanesTaken(t, l, 2, []int{3}, 0, 0, 0, 0)
}

func TestOneLaneWithPackets(t *testing.T) {
	for lane := range 4 {
		for weight := 1; weight <= 9; weight++ {
			weights, credits := []int{3, 3, 3, 3}, []int{3, 0, 3, 0}
			weights[lane], credits[lane] = weight, weight
			l := emptyLanes(weights, credits)
			l.Robins[lane] = setLane(robinMade(50, flowOfCount(4, 0, 25, 30)), lane)
			for i := range 25 {
				checkNextLane(t, l, lane)
				// Its credits go down to 0, and then all become the weights.
				if i > 0 && i%weight == 0 {
					credits = slices.Clone(weights)
				}
				credits[lane] = weight - 1 - i%weight
				checkLanesTaken(t, l, 1, []int{lane}, credits...)
				l, _, _ = impl.NextOfLanes(l)
			}
			checkNothingNext(t, l)
		}
	}
}

func TestLanesWithoutPackets(t *testing.T) {
	for _, credits := range [][]int{{0, 0, 0, 0}, {2, 1, 9, 1}, {1, 0, 0, 0}, {0, 0, 0, 1}} {
		l := emptyLanes([]int{2, 1, 9, 1}, credits)
		checkNothingNext(t, l)
		for _, count := range []int{0, 1, 2, mostInt} {
			checkTakenLanes(t, l, count, l, nil)
		}
		for peer := range 8 {
			checkLanesLeft(t, l, peer)
		}
		if counts, ok := impl.CountLanes(l); !ok || !slices.Equal(counts, []int{0, 0, 0, 0}) {
			t.Errorf("CountLanes(%v) = %v, %v", l, counts, ok)
		}
	}
}

// TestRobinOfALaneKeepsItsTurns takes a packet of one lane: the flows of the others stay, and its own take turns.
func TestRobinOfALaneKeepsItsTurns(t *testing.T) {
	r := robinMade(50, flowMade(0, 0, 60, 60), flowMade(1, 0, 20, 20))
	for lane := range 4 {
		credits := []int{0, 0, 0, 0}
		credits[lane] = 2
		l := lanesMade([]int{2, 2, 2, 2}, credits, r, r, r, r)
		want := copiedLanes(l)
		want.Credits[lane] = 1
		waits := l.Robins[lane].Flows
		want.Robins[lane].Flows = []impl.Flow{{Peer: 1, Deficit: 30, Waits: waits[1].Waits[1:]}, {Deficit: 50, Waits: waits[0].Waits}}
		checkNextOfLanes(t, l, want, waits[1].Waits[0])
	}
}

func TestTakenPacketsOfLanes(t *testing.T) {
	for _, l := range append(manyMixedLanes(), limitLanes()...) {
		total := 0
		for _, count := range countsByHand(l) {
			total += count
		}
		for _, count := range []int{0, 1, 2, 3, 7, total / 2, total - 1, total, total + 1, mostInt} {
			if count >= 0 && total < 300 {
				want, list := takenOfLanesByHand(l, count)
				checkTakenLanes(t, l, count, want, list)
			}
		}
	}
	l := fullLanes(1, []int{1, 9, 1, 9}, []int{0, 0, 0, 0})
	want, list := takenOfLanesByHand(l, mostInt)
	checkTakenLanes(t, l, mostInt, want, list)
	checkTakenLanes(t, l, 2048, want, list)
	want, list = takenOfLanesByHand(l, 2047)
	checkTakenLanes(t, l, 2047, want, list)
}

func TestNegativeCountsOfPacketsAreRefused(t *testing.T) {
	for _, l := range slices.Concat(limitLanes(), manyMixedLanes()[:20]) {
		for _, count := range []int{-1, -2, leastInt} {
			checkNotTakenLanes(t, l, count)
		}
	}
}

func TestCountedPacketsOfLanes(t *testing.T) {
	for _, l := range validLanes() {
		if counts, ok := impl.CountLanes(l); !ok || !slices.Equal(counts, countsByHand(l)) {
			t.Errorf("CountLanes(%v) = %v, %v", l, counts, ok)
		}
	}
	l := lanesMade([]int{1, 1, 1, 1}, []int{0, 0, 0, 0}, robinMade(50, flowMade(1, 0, 10, 20), flowMade(2, 0, 10)), robinMade(50), robinMade(50, flowMade(2, 0, 10)), robinMade(9, flowsOfAll(0, 64, 1)...))
	if counts, ok := impl.CountLanes(l); !ok || !slices.Equal(counts, []int{3, 0, 1, 512}) {
		t.Errorf("CountLanes = %v, %v", counts, ok)
	}
}

// checkLanesLeft expects lanes without a peer, and its packets.
func checkLanesLeft(t *testing.T, l impl.Lanes, peer int) {
	t.Helper()
	got, gone, ok := impl.LeaveLanes(l, peer)
	want, list := leftByHand(l, peer)
	if !ok || !sameLanes(got, want) || !slices.Equal(gone, list) || !impl.LanesValid(got) {
		t.Errorf("LeaveLanes(%v, %d) = %v, %v, %v, want %v, %v", l, peer, got, gone, ok, want, list)
	}
}

func TestPeersThatLeaveLanes(t *testing.T) {
	for _, l := range slices.Concat(smallLanes(), manyMixedLanes(), limitLanes()) {
		for peer := range 8 {
			checkLanesLeft(t, l, peer)
		}
	}
	l := lanesMade([]int{1, 2, 1, 1}, []int{0, 2, 1, 0}, robinMade(50, flowMade(3, 5, 10), flowMade(1, 0, 20)), robinMade(50, flowMade(1, 7, 30, 40)), robinMade(50), robinMade(50, flowMade(3, 0, 60), flowMade(1, 9, 50)))
	got, gone, ok := impl.LeaveLanes(l, 1)
	if want := "1/0:20#100 1/1:30#100 1/1:40#101 1/3:50#100"; !ok || textsOf(gone) != want {
		t.Errorf("LeaveLanes = %q, %v, want %q", textsOf(gone), ok, want)
	}
	want := lanesMade([]int{1, 2, 1, 1}, []int{0, 2, 1, 0}, robinMade(50, flowMade(3, 5, 10)), robinMade(50), robinMade(50), robinMade(50, flowMade(3, 0, 60)))
	if !sameLanes(got, want) {
		t.Errorf("LeaveLanes = %v, want %v", got, want)
	}
}

func TestPeersThatDoNotLeaveLanes(t *testing.T) {
	for _, l := range slices.Concat(limitLanes(), manyMixedLanes()[:20]) {
		for _, peer := range refusedPeers() {
			checkNotLeftLanes(t, l, peer)
		}
	}
}

// memoryPiece is the memory of one slice, as far as its capacity reaches, without what its elements point to.
type memoryPiece struct {
	name  string
	write func()
	text  func() string
}

// pieceOf returns the memory of a slice, of which show tells each element.
func pieceOf[T any](name string, list []T, other T, show func(T) string) memoryPiece {
	whole := list[:cap(list)]
	write := func() {
		for i := range whole {
			whole[i] = other
		}
	}
	text := func() string {
		all := ""
		for _, e := range whole {
			all += show(e) + " "
		}
		return all
	}
	return memoryPiece{name, write, text}
}

func pieceOfPackets(name string, list []impl.Packet) memoryPiece {
	return pieceOf(name, list, written, textOf)
}

func pieceOfNumbers(name string, list []int) memoryPiece {
	return pieceOf(name, list, 777, func(n int) string { return fmt.Sprint(n) })
}

// piecesOfLanes returns all memory of lanes, also of robins and flows beyond the lengths.
func piecesOfLanes(l impl.Lanes) []memoryPiece {
	showFlow := func(f impl.Flow) string { return fmt.Sprint(f.Peer, f.Deficit, len(f.Waits)) }
	showRobin := func(r impl.Robin) string { return fmt.Sprint(r.Quantum, len(r.Flows)) }
	pieces := []memoryPiece{pieceOfNumbers("Weights", l.Weights), pieceOfNumbers("Credits", l.Credits)}
	pieces = append(pieces, pieceOf("Robins", l.Robins, robinMade(777), showRobin))
	for lane, r := range l.Robins[:cap(l.Robins)] {
		pieces = append(pieces, pieceOf(fmt.Sprint("Flows of ", lane), r.Flows, impl.Flow{Peer: 77, Deficit: 77}, showFlow))
		for place, f := range r.Flows[:cap(r.Flows)] {
			pieces = append(pieces, pieceOfPackets(fmt.Sprint("Waits of ", lane, " and ", place), f.Waits))
		}
	}
	return pieces
}

// overwritePieces changes all memory of pieces.
func overwritePieces(pieces []memoryPiece) {
	for _, piece := range pieces {
		piece.write()
	}
}

func textsOfPieces(pieces []memoryPiece) []string {
	var texts []string
	for _, piece := range pieces {
		texts = append(texts, piece.text())
	}
	return texts
}

// laneCalls returns, by name, calls with lanes, each of which returns all memory of its result.
func laneCalls() map[string]func(l impl.Lanes) []memoryPiece {
	join := func(peer int, lane int) func(l impl.Lanes) []memoryPiece {
		return func(l impl.Lanes) []memoryPiece {
			got, _ := impl.JoinLanes(l, impl.Packet{Peer: peer, Lane: lane, Size: 5, Id: 5})
			return piecesOfLanes(got)
		}
	}
	take := func(count int) func(l impl.Lanes) []memoryPiece {
		return func(l impl.Lanes) []memoryPiece {
			got, list, _ := impl.TakeLanes(l, count)
			return append(piecesOfLanes(got), pieceOfPackets("packets", list))
		}
	}
	leave := func(peer int) func(l impl.Lanes) []memoryPiece {
		return func(l impl.Lanes) []memoryPiece {
			got, list, _ := impl.LeaveLanes(l, peer)
			return append(piecesOfLanes(got), pieceOfPackets("packets", list))
		}
	}
	create := func(l impl.Lanes) []memoryPiece {
		got, _ := impl.NewLanes(100, l.Weights)
		return piecesOfLanes(got)
	}
	next := func(l impl.Lanes) []memoryPiece {
		got, _, _ := impl.NextOfLanes(l)
		return piecesOfLanes(got)
	}
	count := func(l impl.Lanes) []memoryPiece {
		got, _ := impl.CountLanes(l)
		return []memoryPiece{pieceOfNumbers("counts", got)}
	}
	return map[string]func(l impl.Lanes) []memoryPiece{
		"NewLanes": create, "NextOfLanes": next, "CountLanes": count,
		"JoinLanes of the lane 0": join(1, 0), "JoinLanes of the lane 3": join(1, 3), "JoinLanes of a new flow": join(6, 2),
		"TakeLanes of none": take(0), "TakeLanes of some": take(3), "TakeLanes of many": take(9), "TakeLanes of all": take(mostInt),
		"LeaveLanes of a peer": leave(1), "LeaveLanes of another one": leave(3), "LeaveLanes of none": leave(6),
	}
}

// memoryLanes returns lanes whose lists have spare capacity, in which a careless append would write.
func memoryLanes() []impl.Lanes {
	var list []impl.Lanes
	for seed := range 40 {
		robins := memoryRobins()[seed : seed+8]
		l := impl.Lanes{
			Robins:  append([]impl.Robin(nil), robins...)[:4],
			Weights: []int{2, 1, 9, 3, 7, 7, 7, 7}[:4],
			Credits: []int{seed % 3, seed % 2, 0, seed % 4, 8, 8, 8}[:4],
		}
		for lane, r := range l.Robins {
			setLane(r, lane)
		}
		list = append(list, l)
	}
	return list
}

// checkUnchanged expects that no call changes an argument, or returns memory of it.
func checkUnchanged[T any](t *testing.T, calls map[string]func(T) []memoryPiece, list []T, pieces func(T) []memoryPiece) {
	t.Helper()
	for name, call := range calls {
		for i, argument := range list {
			memory := pieces(argument)
			before := textsOfPieces(memory)
			got := call(argument)
			if !slices.Equal(textsOfPieces(memory), before) {
				t.Errorf("%s changes the argument %d to %q", name, i, textsOfPieces(memory))
			}
			overwritePieces(got)
			if !slices.Equal(textsOfPieces(memory), before) {
				t.Errorf("%s shares memory with the argument %d", name, i)
			}
		}
	}
}

// checkApart expects that neither two results of a call nor two parts of one result share memory.
func checkApart[T any](t *testing.T, calls map[string]func(T) []memoryPiece, list []T) {
	t.Helper()
	for name, call := range calls {
		for i, argument := range list {
			first, second := call(argument), call(argument)
			want := textsOfPieces(second)
			overwritePieces(first)
			if !slices.Equal(textsOfPieces(second), want) {
				t.Errorf("%s of the argument %d: two results share memory", name, i)
			}
			for place := range want {
				got := call(argument)
				texts := textsOfPieces(got)
				got[place].write()
				for other, piece := range got {
					if other != place && piece.text() != texts[other] {
						t.Errorf("%s of the argument %d: %s and %s share memory", name, i, got[place].name, piece.name)
					}
				}
			}
		}
	}
}

func TestLanesStayAsTheyAre(t *testing.T) {
	list := memoryLanes()
	for i, l := range list {
		memory := piecesOfLanes(l)
		before := textsOfPieces(memory)
		if _, waits := impl.NextLane(l); !impl.LanesValid(l) || !impl.LanesSame(l, l) || waits == (laneByHand(l) < 0) {
			t.Fatalf("the lanes %d are not valid", i)
		}
		if !slices.Equal(textsOfPieces(memory), before) {
			t.Errorf("looking at the lanes %d changes them to %q", i, textsOfPieces(memory))
		}
	}
	checkUnchanged(t, laneCalls(), list, piecesOfLanes)
}

func TestResultsOfLanesShareNoMemory(t *testing.T) {
	checkApart(t, laneCalls(), memoryLanes())
}

// refilled returns lanes in which each one of those that are filled has packets of all peers.
func refilled(t *testing.T, l impl.Lanes, filled int, id int) impl.Lanes {
	t.Helper()
	for lane := range 4 {
		if filled>>lane%2 == 0 {
			continue
		}
		next, ok := impl.JoinLanes(l, impl.Packet{Peer: id % 8, Lane: lane, Size: 1 + id%100, Id: id})
		if !ok {
			t.Fatalf("the packet %d does not join", id)
		}
		l = next
	}
	return l
}

// TestNoLaneWaitsForever fills some lanes again and again: each one of them is chosen as often as its weight in each round, and the first one first.
func TestNoLaneWaitsForever(t *testing.T) {
	for _, weights := range [][]int{{1, 1, 1, 1}, {2, 1, 1, 1}, {9, 1, 1, 1}, {9, 9, 9, 1}, {1, 2, 3, 4}, {9, 9, 9, 9}, {1, 9, 1, 9}} {
		for filled := 1; filled < 16; filled++ {
			l, _ := impl.NewLanes(100, weights)
			for id := range 16 {
				l = refilled(t, l, filled, id)
			}
			id := 16
			for range 3 {
				// One round takes the weights of the lanes with packets, those of the first lane in front.
				for lane, weight := range weights {
					for turn := range weight {
						if filled>>lane%2 == 0 {
							continue
						}
						next, p, ok := impl.NextOfLanes(l)
						if !ok || p.Lane != lane || next.Credits[lane] != weight-1-turn {
							t.Fatalf("NextOfLanes(%v) = %v, %v, %v, want the lane %d", l, next, p, ok, lane)
						}
						l, id = refilledOne(t, next, p, id)
					}
				}
			}
		}
	}
}

// refilledOne puts a packet in the place of one that was taken.
func refilledOne(t *testing.T, l impl.Lanes, p impl.Packet, id int) (impl.Lanes, int) {
	t.Helper()
	p.Id = id
	next, ok := impl.JoinLanes(l, p)
	if !ok {
		t.Fatalf("the packet %v does not join", p)
	}
	return next, id + 1
}

// TestOnePacketBehindAllOtherLanes waits, in any state of the credits, for one packet of a lane while the others stay full.
func TestOnePacketBehindAllOtherLanes(t *testing.T) {
	for seed := range 80 {
		row := numberRow(seed, 12, 1000)
		var weights, credits []int
		for lane := range 4 {
			weights = append(weights, 1+row[lane]%9)
			credits = append(credits, row[4+lane]%(weights[lane]+1))
		}
		waiting := seed % 4
		full := robinMade(100, flowOfCount(2, 0, 30, 50), flowOfCount(6, 0, 30, 80))
		l := lanesMade(weights, credits, full, full, full, full)
		l.Robins[waiting].Flows = []impl.Flow{{Peer: 3, Waits: []impl.Packet{{Peer: 3, Lane: waiting, Size: 100}}}}
		// It may have to wait until the credits of all others are gone, and then for those of the lanes in front.
		most := 0
		for lane, credit := range credits {
			if lane < waiting {
				most += weights[lane]
			}
			if lane != waiting {
				most += credit
			}
		}
		checkWaitingLane(t, l, waiting, most)
	}
}

// checkWaitingLane expects the packet of a lane behind at most this many others.
func checkWaitingLane(t *testing.T, l impl.Lanes, waiting int, most int) {
	t.Helper()
	id := 100
	for range most {
		next, p, ok := impl.NextOfLanes(l)
		if !ok || !impl.LanesValid(next) {
			t.Fatalf("NextOfLanes(%v) = %v, %v, %v", l, next, p, ok)
		}
		if p.Lane == waiting {
			return
		}
		l, id = refilledOne(t, next, p, id)
	}
	checkNextLane(t, l, waiting)
}

// laneResult is what a call with lanes returns.
type laneResult struct {
	lanes impl.Lanes
	list  []impl.Packet
	ok    bool
}

func sameLaneResult(a laneResult, b laneResult) bool {
	return a.ok == b.ok && sameLanes(a.lanes, b.lanes) && slices.Equal(a.list, b.list)
}

// laneStep makes one call, and returns what it returns, and what was expected.
func laneStep(l impl.Lanes, kind int, n int) (laneResult, laneResult) {
	var got, want laneResult
	want.ok = true
	switch kind {
	case 0:
		got.lanes, got.list, got.ok = impl.TakeLanes(l, n%7)
		want.lanes, want.list = takenOfLanesByHand(l, n%7)
	case 1:
		got.lanes, got.list, got.ok = impl.LeaveLanes(l, n%8)
		want.lanes, want.list = leftByHand(l, n%8)
	case 2:
		var p impl.Packet
		got.lanes, p, got.ok = impl.NextOfLanes(l)
		got.list = []impl.Packet{p}
		if laneByHand(l) < 0 {
			return got, laneResult{list: []impl.Packet{{}}}
		}
		want.lanes, p = nextOfLanesByHand(l)
		want.list = []impl.Packet{p}
	default:
		p := impl.Packet{Peer: n / 7 % 8, Lane: n / 64 % 4, Size: n%100 + 1, Id: n % 10000}
		got.lanes, got.ok = impl.JoinLanes(l, p)
		if _, waits := waitingByHand(l.Robins[p.Lane], p.Peer); len(waits) == 64 {
			return got, laneResult{}
		}
		want.lanes = joinedLanesByHand(l, p)
	}
	return got, want
}

// TestRowsOfLanes follows rows of calls, and compares each result with one computed by hand.
func TestRowsOfLanes(t *testing.T) {
	for seed := range 40 {
		row := numberRow(seed, 4, 9)
		l, ok := impl.NewLanes([]int{1, 20, 100, 500}[seed%4], []int{row[0] + 1, row[1] + 1, row[2] + 1, row[3] + 1})
		if !ok {
			t.Fatal("NewLanes fails")
		}
		n := seed
		for range 400 {
			n = (n*1103515245 + 12345) % 2147483648
			kind := n / 65536 % (6 + seed%4*10)
			got, want := laneStep(l, kind, n/256)
			if !sameLaneResult(got, want) {
				t.Fatalf("row %d, call %d of %v: %v, want %v", seed, kind, l, got, want)
			}
			if got.ok {
				l = got.lanes
			}
			if !impl.LanesValid(l) {
				t.Fatalf("row %d: %v is not valid", seed, l)
			}
		}
	}
}

// TestPacketsOfLanesLeaveOnce takes all packets: each one leaves once, and behind those of its peer and lane that joined before.
func TestPacketsOfLanesLeaveOnce(t *testing.T) {
	for seed := range 30 {
		l, _ := impl.NewLanes([]int{1, 50, 100, 500}[seed%4], []int{1 + seed%9, 1, 9, 1 + seed%2})
		var joined []impl.Packet
		for i, n := range numberRow(seed, 150, 3200) {
			p := impl.Packet{Peer: n % 8, Lane: n / 8 % 4, Size: n/32 + 1, Id: i}
			next, ok := impl.JoinLanes(l, p)
			if !ok {
				t.Fatalf("JoinLanes(%v, %v) fails", l, p)
			}
			l, joined = next, append(joined, p)
		}
		left, taken, ok := impl.TakeLanes(l, mostInt)
		if counts, _ := impl.CountLanes(left); !ok || len(taken) != 150 || !slices.Equal(counts, []int{0, 0, 0, 0}) {
			t.Fatalf("TakeLanes takes %d packets, %v, and leaves %v", len(taken), ok, left)
		}
		byFlow := func(a impl.Packet, b impl.Packet) int { return 4*(a.Peer-b.Peer) + a.Lane - b.Lane }
		slices.SortStableFunc(taken, byFlow)
		slices.SortStableFunc(joined, byFlow)
		if !slices.Equal(taken, joined) {
			t.Errorf("row %d: %v joined, and %v left", seed, joined, taken)
		}
	}
}
