package tests

import (
	"fmt"
	"slices"
	"strings"
	"testing"

	"loop.example/trafficguard/impl"
)

func offerAt(time int, p impl.Packet) impl.Event {
	return impl.Event{Time: time, Packet: p}
}

func serveAt(time int, count int) impl.Event {
	return impl.Event{Time: time, Serve: count}
}

// eventsOf returns events, all of which offer small packets at one time.
func eventsOf(time int, count int) []impl.Event {
	var list []impl.Event
	for i := range count {
		list = append(list, offerAt(time, impl.Packet{Peer: i % 8, Lane: i % 4, Size: 1, Id: i}))
	}
	return list
}

// mixedEvents returns events from a time on, of which some serve, and the others offer packets of a few peers.
func mixedEvents(seed int, time int, count int) []impl.Event {
	var list []impl.Event
	for i, n := range numberRow(seed, count, 30000) {
		time = min(time+n%5*(n/5%3), 1000000)
		if n%7 < 3 {
			list = append(list, serveAt(time, 1+n/7%4))
			continue
		}
		p := impl.Packet{Peer: n / 16 % (1 + seed%8), Lane: n / 128 % 4, Size: 1 + n/3%(5+seed%96), Id: i}
		list = append(list, offerAt(time, p))
	}
	return list
}

// decisionLists returns all lists of up to five decisions.
func decisionLists() [][]int {
	lists := [][]int{nil}
	rows := lists
	for range 5 {
		var longer [][]int
		for _, row := range rows {
			for decision := 1; decision <= 5; decision++ {
				longer = append(longer, append(slices.Clone(row), decision))
			}
		}
		rows = longer
		lists = append(lists, rows...)
	}
	return lists
}

// mixedDecisions returns count decisions from a row of numbers.
func mixedDecisions(seed int, count int) []int {
	list := numberRow(seed, count, 5)
	for i := range list {
		list[i]++
	}
	return list
}

// noDecisions returns lists in which one number at each place is no decision.
func noDecisions() [][]int {
	var lists [][]int
	for _, n := range []int{-1, 0, 6, 7, 100, -5, leastInt, mostInt} {
		lists = append(lists, []int{n})
		for place := range 6 {
			lists = append(lists, slices.Insert([]int{1, 2, 3, 4, 5}, place, n))
		}
	}
	return append(lists, make([]int, 6), append(mixedDecisions(1, 5000), 0), append(mixedDecisions(2, 5000), 6))
}

// manyPackets returns packets of all peers and sizes.
func manyPackets(seed int, count int) []impl.Packet {
	var list []impl.Packet
	for i, n := range numberRow(seed, count, 3200) {
		list = append(list, impl.Packet{Peer: n % 8, Lane: n / 8 % 4, Size: 1 + n/32, Id: i})
	}
	return list
}

// packetLists returns valid lists of as many packets as are counted.
func packetLists() [][]impl.Packet {
	lists := [][]impl.Packet{nil, {}, validPackets(), ofOneByte(64), ofOneByte(65), repeated(1000)}
	for peer := range 8 {
		lists = append(lists, slices.Repeat([]impl.Packet{{Peer: peer, Lane: peer % 4, Size: 100, Id: peer}}, 1000))
	}
	for seed, count := range []int{1, 2, 3, 8, 63, 64, 65, 100, 500, 999, 1000} {
		lists = append(lists, manyPackets(seed, count))
	}
	return lists
}

// refusedPackets returns lists in which one packet is not valid, or of which there are too many.
func refusedPackets() [][]impl.Packet {
	var lists [][]impl.Packet
	for _, p := range invalidPackets() {
		lists = append(lists, []impl.Packet{p}, append(manyPackets(1, 999), p))
		for place := range 4 {
			lists = append(lists, slices.Insert(manyPackets(2, 3), place, p))
		}
	}
	for _, count := range []int{1001, 1002, 2000, 5000} {
		lists = append(lists, manyPackets(3, count), ofOneByte(count), make([]impl.Packet, count))
	}
	return lists
}

// shareLists returns valid shares: all small ones, and many others.
func shareLists() [][]int {
	return append(smallWants(), limitShares()...)
}

// limitShares returns valid shares of which many are at the limits, or are equal but for one.
func limitShares() [][]int {
	var lists [][]int
	for _, share := range []int{0, 1, 2, 3, 7, 50, 1000, 46341, 65536, 99999, 100000} {
		for _, count := range []int{1, 2, 3, 8, 15, 16} {
			lists = append(lists, slices.Repeat([]int{share}, count))
		}
	}
	for seed := range 300 {
		most := []int{2, 3, 10, 1000, 30000}[seed%5]
		lists = append(lists, numberRow(seed, seed%17, most))
	}
	for place := range 16 {
		few, much := make([]int, 16), slices.Repeat([]int{100000}, 16)
		few[place], much[place] = 100000, 99999
		lists = append(lists, few, much)
	}
	return append(lists, []int{})
}

// refusedShares returns shares of which one is not within the limits, or of which there are too many.
func refusedShares() [][]int {
	var lists [][]int
	for _, n := range []int{-1, -2, 100001, 200000, -100000, leastInt, mostInt} {
		lists = append(lists, []int{n}, append(make([]int, 15), n), append([]int{n}, make([]int, 15)...))
		for place := range 4 {
			lists = append(lists, slices.Insert([]int{5, 100000, 7}, place, n))
		}
	}
	for _, count := range []int{17, 18, 32, 1000} {
		lists = append(lists, make([]int, count), slices.Repeat([]int{5}, count), slices.Repeat([]int{100000}, count), slices.Repeat([]int{-1}, count))
	}
	return lists
}

// countedByHand looks through the list for each decision.
func countedByHand(list []int) []int {
	counts := []int{0, 0, 0, 0, 0, 0}
	for decision := 1; decision <= 5; decision++ {
		for _, n := range list {
			if n == decision {
				counts[decision]++
			}
		}
	}
	return counts
}

// fairnessByHand looks for the most thousandths that are not too much.
func fairnessByHand(shares []int) int {
	sum, squares := 0, 0
	for _, share := range shares {
		sum += share
		squares += share * share
	}
	thousandths := 0
	for thousandths < 1000 && (thousandths+1)*len(shares)*squares <= 1000*sum*sum {
		thousandths++
	}
	return thousandths
}

// topByHand counts for each place how many others are in front of it.
func topByHand(bytes []int, count int) []int {
	order := make([]int, len(bytes))
	for place, n := range bytes {
		front := 0
		for other, m := range bytes {
			if m > n || m == n && other < place {
				front++
			}
		}
		order[front] = place
	}
	return order[:min(count, len(order))]
}

func reportByHand(decisions []int, served []impl.Packet) string {
	counts := countedByHand(decisions)
	text := fmt.Sprintf("in %d\nbanned %d\nfast %d\nbusy %d\nfull %d\n", counts[1], counts[2], counts[3], counts[4], counts[5])
	for peer, bytes := range sizesByPeer(served) {
		if bytes > 0 {
			text += fmt.Sprintf("peer %d %d\n", peer, bytes)
		}
	}
	return text
}

func eventsByHand(g impl.Guard, list []impl.Event) (impl.Guard, []int, []impl.Packet) {
	var decisions []int
	var served []impl.Packet
	for _, e := range list {
		if e.Serve > 0 {
			next, taken := servedByHand(g, e.Time, e.Serve)
			g, served = next, append(served, taken...)
		} else {
			next, decision := offeredByHand(g, e.Packet, e.Time)
			g, decisions = next, append(decisions, decision)
		}
	}
	return g, decisions, served
}

func checkCounts(t *testing.T, list []int, want ...int) {
	t.Helper()
	if got, ok := impl.CountDecisions(list); !ok || !slices.Equal(got, want) {
		t.Errorf("CountDecisions(%v) = %v, %v, want %v", list, got, ok, want)
	}
}

func checkNoCounts(t *testing.T, list []int) {
	t.Helper()
	if got, ok := impl.CountDecisions(list); ok || len(got) != 0 {
		t.Errorf("CountDecisions(%v) = %v, %v", list, got, ok)
	}
}

func checkPeerBytes(t *testing.T, list []impl.Packet, want ...int) {
	t.Helper()
	if got, ok := impl.BytesByPeer(list); !ok || !slices.Equal(got, want) {
		t.Errorf("BytesByPeer of %d packets = %v, %v, want %v", len(list), got, ok, want)
	}
}

func checkNoPeerBytes(t *testing.T, list []impl.Packet) {
	t.Helper()
	if got, ok := impl.BytesByPeer(list); ok || len(got) != 0 {
		t.Errorf("BytesByPeer of %d packets = %v, %v", len(list), got, ok)
	}
}

func checkFairness(t *testing.T, shares []int, want int) {
	t.Helper()
	if got, ok := impl.FairnessOf(shares); !ok || got != want {
		t.Errorf("FairnessOf(%v) = %d, %v, want %d", shares, got, ok, want)
	}
}

func checkNoFairness(t *testing.T, shares []int) {
	t.Helper()
	if got, ok := impl.FairnessOf(shares); ok || got != 0 {
		t.Errorf("FairnessOf(%v) = %d, %v", shares, got, ok)
	}
}

func checkTop(t *testing.T, bytes []int, count int, want ...int) {
	t.Helper()
	if got, ok := impl.TopPeers(bytes, count); !ok || !slices.Equal(got, want) {
		t.Errorf("TopPeers(%v, %d) = %v, %v, want %v", bytes, count, got, ok, want)
	}
}

func checkNoTop(t *testing.T, bytes []int, count int) {
	t.Helper()
	if got, ok := impl.TopPeers(bytes, count); ok || len(got) != 0 {
		t.Errorf("TopPeers(%v, %d) = %v, %v", bytes, count, got, ok)
	}
}

// checkEvents compares with events made by hand, and returns what they give.
func checkEvents(t *testing.T, g impl.Guard, list []impl.Event) (impl.Guard, []int, []impl.Packet) {
	t.Helper()
	got, decisions, served, ok := impl.RunEvents(g, list)
	want, numbers, packets := eventsByHand(g, list)
	if !ok || !slices.Equal(decisions, numbers) || !slices.Equal(served, packets) || !sameGuard(got, want) || !impl.GuardValid(got) {
		t.Fatalf("RunEvents(%v, %v) = %v, %v, %v, %v, want %v, %v, %v", g, list, got, decisions, served, ok, want, numbers, packets)
	}
	return got, decisions, served
}

func checkNoEvents(t *testing.T, g impl.Guard, list []impl.Event) {
	t.Helper()
	if got, decisions, served, ok := impl.RunEvents(g, list); ok || len(decisions) != 0 || len(served) != 0 || !isZeroGuard(got) {
		t.Errorf("RunEvents(%v, %v) = %v, %v, %v, %v", g, list, got, decisions, served, ok)
	}
}

func checkReport(t *testing.T, decisions []int, served []impl.Packet, want string) {
	t.Helper()
	if got := impl.FormatReport(decisions, served); got != want {
		t.Errorf("FormatReport of %d decisions and %d packets = %q, want %q", len(decisions), len(served), got, want)
	}
}

func TestEventLimitConstant(t *testing.T) {
	if impl.MaxEvents != 32 {
		t.Errorf("MaxEvents = %d", impl.MaxEvents)
	}
}

func TestDecisionsAreCounted(t *testing.T) {
	checkCounts(t, nil, 0, 0, 0, 0, 0, 0)
	checkCounts(t, []int{}, 0, 0, 0, 0, 0, 0)
	checkCounts(t, []int{1, 3, 1, 5}, 0, 2, 0, 1, 0, 1)
	checkCounts(t, []int{impl.DecideFull, impl.DecideBusy, impl.DecideFast, impl.DecideBanned, impl.DecideIn}, 0, 1, 1, 1, 1, 1)
	for _, list := range decisionLists() {
		checkCounts(t, list, countedByHand(list)...)
	}
}

// TestManyDecisionsAreCounted has more of them than other lists may have.
func TestManyDecisionsAreCounted(t *testing.T) {
	for _, count := range []int{16, 17, 32, 33, 64, 65, 200, 1000, 1001, 20000} {
		list := mixedDecisions(count, count)
		checkCounts(t, list, countedByHand(list)...)
		for decision := 1; decision <= 5; decision++ {
			want := make([]int, 6)
			want[decision] = count
			checkCounts(t, slices.Repeat([]int{decision}, count), want...)
		}
	}
}

func TestWhatIsNoDecisionIsNotCounted(t *testing.T) {
	for _, list := range noDecisions() {
		checkNoCounts(t, list)
	}
}

func TestBytesOfPeersAreCounted(t *testing.T) {
	checkPeerBytes(t, nil, 0, 0, 0, 0, 0, 0, 0, 0)
	checkPeerBytes(t, madeOf([2]int{1, 60}, [2]int{2, 30}, [2]int{1, 5}), 0, 65, 30, 0, 0, 0, 0, 0)
	checkPeerBytes(t, madeOf([2]int{0, 1}, [2]int{7, 100}, [2]int{7, 1}), 1, 0, 0, 0, 0, 0, 0, 101)
	for _, list := range packetLists() {
		checkPeerBytes(t, list, sizesByPeer(list)...)
	}
	for _, list := range smallLists() {
		checkPeerBytes(t, list, sizesByPeer(list)...)
	}
	// Packets that are equal are counted each time.
	checkPeerBytes(t, slices.Repeat([]impl.Packet{{Peer: 3, Size: 100}}, 1000), 0, 0, 0, 100000, 0, 0, 0, 0)
}

func TestPacketsThatAreNotCounted(t *testing.T) {
	for _, list := range refusedPackets() {
		checkNoPeerBytes(t, list)
		checkReport(t, []int{1}, list, "")
		checkReport(t, nil, list, "")
	}
}

func TestExamplesOfFairness(t *testing.T) {
	checkFairness(t, []int{100, 50, 0}, 600)
	checkFairness(t, []int{0, 50, 100}, 600)
	checkFairness(t, []int{50, 0, 100}, 600)
	checkFairness(t, []int{9, 0, 0, 0}, 250)
	checkFairness(t, []int{0, 150, 50, 0, 0, 0, 0, 0}, 200)
	checkFairness(t, []int{0, 60, 0, 0, 0, 0, 0, 0}, 125)
	checkFairness(t, []int{1, 2}, 900)
	checkFairness(t, []int{1, 2, 3}, 857)
	checkFairness(t, []int{1, 0, 0}, 333)
	checkFairness(t, []int{1, 1, 0}, 666)
	checkFairness(t, []int{100000, 1}, 500)
	checkFairness(t, []int{100000, 1, 1}, 333)
	checkFairness(t, append(make([]int, 15), 100000), 62)
	checkFairness(t, append(make([]int, 15), 1), 62)
}

// TestFairnessOfNothing has no shares, or shares of which none is greater than 0.
func TestFairnessOfNothing(t *testing.T) {
	checkFairness(t, nil, 1000)
	for count := range 17 {
		checkFairness(t, make([]int, count), 1000)
	}
	checkNoFairness(t, make([]int, 17))
}

func TestFairnessOfManyShares(t *testing.T) {
	for _, shares := range shareLists() {
		checkFairness(t, shares, fairnessByHand(shares))
	}
}

func TestSharesThatHaveNoFairnessAndNoPlaces(t *testing.T) {
	for _, shares := range refusedShares() {
		checkNoFairness(t, shares)
		for _, count := range []int{0, 1, 3, mostInt, -1} {
			checkNoTop(t, shares, count)
		}
	}
}

// TestOnlyEqualSharesAreWhollyFair has shares that differ as little as they can.
func TestOnlyEqualSharesAreWhollyFair(t *testing.T) {
	for _, shares := range shareLists() {
		equal := len(shares) == 0 || slices.Min(shares) == slices.Max(shares)
		if got, ok := impl.FairnessOf(shares); !ok || got < 0 || got > 1000 || (got == 1000) != equal {
			t.Errorf("FairnessOf(%v) = %d, %v", shares, got, ok)
		}
	}
	for _, share := range []int{1, 2, 50, 99999, 100000} {
		for count := 1; count <= 16; count++ {
			checkFairness(t, slices.Repeat([]int{share}, count), 1000)
		}
		for count := 2; count <= 16; count++ {
			shares := slices.Repeat([]int{share}, count)
			shares[count-1]--
			checkFairness(t, shares, fairnessByHand(shares))
			if got, _ := impl.FairnessOf(shares); got >= 1000 {
				t.Errorf("FairnessOf(%v) = %d", shares, got)
			}
		}
	}
}

// TestFairnessIsOfTheParts makes all shares greater, or puts them in another order.
func TestFairnessIsOfTheParts(t *testing.T) {
	for seed := range 200 {
		shares := numberRow(seed, 1+seed%16, 100)
		want, _ := impl.FairnessOf(shares)
		for _, times := range []int{2, 3, 10, 1000} {
			greater := slices.Clone(shares)
			for i := range greater {
				greater[i] *= times
			}
			checkFairness(t, greater, want)
		}
		turned := append(slices.Clone(shares[len(shares)/2:]), shares[:len(shares)/2]...)
		checkFairness(t, turned, want)
		slices.Sort(turned)
		checkFairness(t, turned, want)
	}
}

func TestPeersWithTheMostBytes(t *testing.T) {
	checkTop(t, []int{10, 50, 50, 7}, 3, 1, 2, 0)
	checkTop(t, []int{10, 50, 50, 7}, 1, 1)
	checkTop(t, []int{10, 50, 50, 7}, 0)
	checkTop(t, []int{10, 50, 50, 7}, 4, 1, 2, 0, 3)
	checkTop(t, []int{10, 50, 50, 7}, 5, 1, 2, 0, 3)
	checkTop(t, []int{0, 100000, 0}, mostInt, 1, 0, 2)
	checkTop(t, nil, 0)
	checkTop(t, nil, 5)
	checkTop(t, []int{}, mostInt)
	checkTop(t, make([]int, 16), 3, 0, 1, 2)
	checkTop(t, slices.Repeat([]int{100000}, 16), 16, 0, 1, 2, 3, 4, 5, 6, 7, 8, 9, 10, 11, 12, 13, 14, 15)
	checkTop(t, []int{0, 1, 2, 3, 4, 5, 6, 7, 8, 9, 10, 11, 12, 13, 14, 15}, 16, 15, 14, 13, 12, 11, 10, 9, 8, 7, 6, 5, 4, 3, 2, 1, 0)
}

func TestPlacesOfManyShares(t *testing.T) {
	for _, shares := range shareLists() {
		for _, count := range []int{0, 1, 2, len(shares) - 1, len(shares), len(shares) + 1, 16, 17, 1000, mostInt} {
			if count >= 0 {
				checkTop(t, shares, count, topByHand(shares, count)...)
			}
		}
		for _, count := range []int{-1, -2, leastInt} {
			checkNoTop(t, shares, count)
		}
	}
}

func TestExampleOfEvents(t *testing.T) {
	g := guardMade(settingsMade(), 0)
	list := []impl.Event{
		offerAt(0, impl.Packet{Peer: 1, Size: 60, Id: 1}), offerAt(0, impl.Packet{Peer: 1, Size: 60, Id: 2}), offerAt(1, impl.Packet{Peer: 2, Lane: 1, Size: 50, Id: 3}),
		serveAt(2, 2), serveAt(3, 1),
	}
	got, decisions, served := checkEvents(t, g, list)
	if !slices.Equal(decisions, []int{1, 3, 1}) || textsOf(served) != "1/0:60#1 2/1:50#3" || got.Time != 3 || got.Scores[1].Points != 20 {
		t.Errorf("RunEvents = %v, %v, %q", got, decisions, textsOf(served))
	}
	checkBytes(t, got, 0, 0, 0, 0, 0, 0, 0, 0)
	checkReport(t, decisions, served, "in 2\nbanned 0\nfast 1\nbusy 0\nfull 0\npeer 1 60\npeer 2 50\n")
}

// TestEventsOfEachDecision has rows of events that give each one of the decisions.
func TestEventsOfEachDecision(t *testing.T) {
	g := guardMade(settingsMade(), 7)
	offers := func(time int, peers ...int) []impl.Event {
		var list []impl.Event
		for i, peer := range peers {
			list = append(list, offerAt(time, impl.Packet{Peer: peer, Lane: 2, Size: 60, Id: i}))
		}
		return list
	}
	check := func(list []impl.Event, want ...int) {
		t.Helper()
		if _, decisions, _ := checkEvents(t, g, list); !slices.Equal(decisions, want) {
			t.Errorf("RunEvents(%v) decides %v, want %v", list, decisions, want)
		}
	}
	check(offers(7, 1, 2, 3), 1, 1, 1)
	check(offers(7, 1, 1, 1, 1, 1, 1, 1), 1, 3, 3, 3, 3, 3, 2)
	check(offers(7, 1, 2, 3, 4, 1), 1, 1, 1, 5, 3)
	check(slices.Concat(offers(7, 1, 2, 3, 4), []impl.Event{serveAt(7, 1)}, offers(7, 4, 5)), 1, 1, 1, 5, 1, 4)
	check(slices.Concat(offers(7, 1, 2, 3, 4), []impl.Event{serveAt(7, 9)}, offers(7, 5, 6)), 1, 1, 1, 5, 1, 4)
	check(slices.Concat(offers(7, 1, 1), offers(8, 1), offers(9, 1)), 1, 3, 3, 1)
}

func TestEventsOfManyGuards(t *testing.T) {
	var seen [6]int
	for i, g := range slices.Concat(mixedGuards(), newGuards(), limitGuards()) {
		if totalUsed(countsByHand(g.Lanes)) > 300 {
			continue
		}
		for _, count := range []int{1, 2, 9, 31, 32} {
			_, decisions, _ := checkEvents(t, g, mixedEvents(i+count, g.Time, count))
			for _, decision := range decisions {
				seen[decision]++
			}
		}
	}
	for decision := 1; decision <= 5; decision++ {
		if seen[decision] < 100 {
			t.Errorf("the decision %d comes %d times", decision, seen[decision])
		}
	}
}

// TestNoEvents expects that a guard is returned as it is, also its time.
func TestNoEvents(t *testing.T) {
	for _, g := range validGuards() {
		for _, list := range [][]impl.Event{nil, {}} {
			got, decisions, served, ok := impl.RunEvents(g, list)
			if !ok || len(decisions) != 0 || len(served) != 0 || !sameGuard(got, g) {
				t.Errorf("RunEvents(%v, %v) = %v, %v, %v, %v", g, list, got, decisions, served, ok)
			}
		}
	}
}

func TestNoMoreThan32Events(t *testing.T) {
	g := guardMade(withMemory(5000, 5000), 5)
	for count := range 33 {
		got, decisions, _ := checkEvents(t, g, eventsOf(5, count))
		if len(decisions) != count || totalUsed(bytesByHand(got.Lanes)) != count {
			t.Errorf("%d events give %v, %v", count, got, decisions)
		}
		serves := slices.Repeat([]impl.Event{serveAt(6, 1)}, count)
		checkEvents(t, got, serves)
		checkEvents(t, got, append(eventsOf(5, 32-count), serves...))
	}
	for _, count := range []int{33, 34, 64, 1000} {
		checkNoEvents(t, g, eventsOf(5, count))
		checkNoEvents(t, g, slices.Repeat([]impl.Event{serveAt(6, 1)}, count))
		checkNoEvents(t, g, make([]impl.Event, count))
	}
}

func TestEventsThatServe(t *testing.T) {
	g := guardMade(withMemory(5000, 5000), 5)
	full, _, _ := checkEvents(t, g, eventsOf(5, 20))
	for _, count := range []int{1, 2, 19, 20, 21, 1000, mostInt} {
		got, decisions, served := checkEvents(t, full, []impl.Event{serveAt(8, count)})
		if len(served) != min(count, 20) || len(decisions) != 0 || got.Time != 8 {
			t.Errorf("serving %d packets gives %v, %v, %v", count, got, decisions, served)
		}
		// Where nothing is left, nothing is served.
		got, _, again := checkEvents(t, full, []impl.Event{serveAt(8, count), serveAt(8, mostInt), serveAt(9, count), serveAt(9, 1)})
		if len(again) != 20 || got.Time != 9 {
			t.Errorf("serving %d packets and the others gives %v, %v", count, got, again)
		}
	}
	_, decisions, served := checkEvents(t, g, []impl.Event{serveAt(5, 1)})
	if len(decisions) != 0 || len(served) != 0 {
		t.Errorf("a guard without packets serves %v", served)
	}
}

// TestMorePacketsAreServedThanAreReported has a guard with 2048 packets, which are too many for a report.
func TestMorePacketsAreServedThanAreReported(t *testing.T) {
	g := limitGuards()[0]
	_, _, served := checkEvents(t, g, []impl.Event{serveAt(0, 999), serveAt(0, 1)})
	if len(served) != 1000 {
		t.Errorf("%d packets are served", len(served))
	}
	checkReport(t, nil, served, reportByHand(nil, served))
	_, _, served, ok := impl.RunEvents(g, []impl.Event{serveAt(0, 1000), serveAt(0, 1)})
	if !ok || len(served) != 1001 {
		t.Errorf("%d packets are served, %v", len(served), ok)
	}
	checkReport(t, nil, served, "")
	all, _, served, ok := impl.RunEvents(g, []impl.Event{serveAt(0, mostInt)})
	if !ok || len(served) != 2048 || totalUsed(all.Memory.Used) != 0 {
		t.Errorf("%d packets are served, %v", len(served), ok)
	}
	checkReport(t, nil, served, "")
}

// wrongEvents returns events that are refused in each row, whatever else is in it.
func wrongEvents() []impl.Event {
	list := []impl.Event{{}, {Time: 10}}
	for _, p := range invalidPackets() {
		list = append(list, offerAt(10, p))
	}
	valid := impl.Packet{Peer: 1, Lane: 1, Size: 5, Id: 1}
	packets := append(invalidPackets()[1:], valid, impl.Packet{Peer: 1}, impl.Packet{Lane: 1}, impl.Packet{Size: 1}, impl.Packet{Id: 1}, impl.Packet{Peer: -1})
	for _, count := range []int{1, 2, mostInt} {
		for _, p := range packets {
			list = append(list, impl.Event{Time: 10, Packet: p, Serve: count})
		}
	}
	for _, count := range []int{-1, -2, leastInt} {
		list = append(list, serveAt(10, count), impl.Event{Time: 10, Packet: valid, Serve: count})
	}
	for _, time := range []int{-1, 0, 4, 1000001, leastInt, mostInt} {
		list = append(list, offerAt(time, valid), serveAt(time, 1))
	}
	return list
}

// TestOneWrongEventIsEnough puts each wrong event at each place between others.
func TestOneWrongEventIsEnough(t *testing.T) {
	g := guardMade(settingsMade(), 5)
	others := []impl.Event{offerAt(10, impl.Packet{Peer: 1, Size: 60}), serveAt(10, 1), offerAt(10, impl.Packet{Peer: 2, Lane: 3, Size: 5}), serveAt(10, 5)}
	checkEvents(t, g, others)
	for _, wrong := range wrongEvents() {
		checkNoEvents(t, g, []impl.Event{wrong})
		for place := range 5 {
			checkNoEvents(t, g, slices.Insert(slices.Clone(others), place, wrong))
		}
		checkNoEvents(t, g, append(eventsOf(5, 31), wrong))
	}
}

// TestEventWithAPacketThatServes has a packet that would be let in, and one that waits.
func TestEventWithAPacketThatServes(t *testing.T) {
	p := impl.Packet{Peer: 1, Lane: 2, Size: 5, Id: 9}
	for _, g := range append(mixedGuards()[:20], guardMade(settingsMade(), 5), holding(guardMade(settingsMade(), 5), waitingLanes(p), 9, 9)) {
		checkNoEvents(t, g, []impl.Event{{Time: g.Time, Packet: p, Serve: 1}})
		checkNoEvents(t, g, []impl.Event{{Time: g.Time, Packet: p, Serve: -1}})
		checkEvents(t, g, []impl.Event{{Time: g.Time, Packet: p}})
		checkEvents(t, g, []impl.Event{{Time: g.Time, Serve: 1}})
	}
}

func TestEventsDoNotGoBackInTime(t *testing.T) {
	p := impl.Packet{Peer: 1, Size: 5}
	both := func(time int) []impl.Event { return []impl.Event{offerAt(time, p), serveAt(time, 1)} }
	for _, now := range []int{0, 1, 7, 999999, 1000000} {
		g := guardMade(settingsMade(), now)
		for _, e := range both(now) {
			checkEvents(t, g, []impl.Event{e, e, e})
		}
		for _, e := range both(now - 1) {
			checkNoEvents(t, g, []impl.Event{e})
		}
	}
	g := guardMade(settingsMade(), 5)
	for _, first := range both(9) {
		for _, second := range both(8) {
			checkNoEvents(t, g, []impl.Event{first, second})
			checkNoEvents(t, g, []impl.Event{second, first, second})
			checkEvents(t, g, []impl.Event{second, first, first})
		}
	}
	for _, last := range both(1000000) {
		if got, _, _ := checkEvents(t, g, []impl.Event{last}); got.Time != 1000000 {
			t.Errorf("the time is %d", got.Time)
		}
		for _, late := range both(1000001) {
			checkNoEvents(t, g, []impl.Event{last, late})
		}
	}
}

func TestInvalidGuardsHaveNoEvents(t *testing.T) {
	for _, g := range invalidGuards() {
		checkNoEvents(t, g, nil)
		for _, now := range []int{g.Time, 60, 1000000} {
			checkNoEvents(t, g, eventsOf(now, 1))
			checkNoEvents(t, g, []impl.Event{serveAt(now, 1)})
			checkNoEvents(t, g, eventsOf(now, 33))
		}
	}
}

// TestEventsInTwoRows makes the first events, and then the others.
func TestEventsInTwoRows(t *testing.T) {
	for seed, g := range mixedGuards()[:60] {
		list := mixedEvents(seed, g.Time, 32)
		want, decisions, served := checkEvents(t, g, list)
		for _, cut := range []int{0, 1, 7, 16, 31, 32} {
			half, firstDecisions, firstServed := checkEvents(t, g, list[:cut])
			got, otherDecisions, otherServed := checkEvents(t, half, list[cut:])
			if !sameGuard(got, want) || !slices.Equal(slices.Concat(firstDecisions, otherDecisions), decisions) || !slices.Equal(slices.Concat(firstServed, otherServed), served) {
				t.Errorf("the events %v, cut at %d, give %v", list, cut, got)
			}
		}
	}
}

func TestReportsOfManyLists(t *testing.T) {
	for i, served := range packetLists() {
		for _, decisions := range [][]int{nil, {}, {1}, {5, 5, 4}, mixedDecisions(i, 32), mixedDecisions(i, 5000)} {
			checkReport(t, decisions, served, reportByHand(decisions, served))
		}
	}
	for _, decisions := range decisionLists() {
		checkReport(t, decisions, nil, reportByHand(decisions, nil))
	}
}

func TestLinesOfReports(t *testing.T) {
	none := "in 0\nbanned 0\nfast 0\nbusy 0\nfull 0\n"
	checkReport(t, nil, nil, none)
	checkReport(t, []int{}, []impl.Packet{}, none)
	checkReport(t, []int{2, 2, 4, 5, 5, 5, 1, 3, 3, 3, 3}, nil, "in 1\nbanned 2\nfast 4\nbusy 1\nfull 3\n")
	checkReport(t, slices.Repeat([]int{1}, 12345), nil, "in 12345\nbanned 0\nfast 0\nbusy 0\nfull 0\n")
	checkReport(t, nil, madeOf([2]int{7, 9}, [2]int{0, 1}, [2]int{7, 1}), none+"peer 0 1\npeer 7 10\n")
	checkReport(t, nil, slices.Repeat(madeOf([2]int{3, 100}), 1000), none+"peer 3 100000\n")
	lines := ""
	for peer := range 8 {
		lines += fmt.Sprintf("peer %d 12500\n", peer)
		checkReport(t, []int{1}, madeOf([2]int{peer, 1}), strings.Replace(none, "in 0", "in 1", 1)+fmt.Sprintf("peer %d 1\n", peer))
	}
	checkReport(t, nil, repeated(1000), none+lines)
}

func TestReportsThatAreRefused(t *testing.T) {
	for _, decisions := range noDecisions() {
		for _, served := range [][]impl.Packet{nil, manyPackets(1, 5), manyPackets(1, 1001), {{}}} {
			checkReport(t, decisions, served, "")
		}
	}
	checkReport(t, []int{1, 2}, manyPackets(1, 1001), "")
	checkReport(t, []int{1, 2}, make([]impl.Packet, 1), "")
}

// TestEventsAreCounted expects that each offer has a decision, and that what came and what waited is served, or waits.
func TestEventsAreCounted(t *testing.T) {
	for seed, g := range append(mixedGuards(), newGuards()...) {
		list := mixedEvents(seed, g.Time, 1+seed%32)
		got, decisions, served, ok := impl.RunEvents(g, list)
		counts, okCounts := impl.CountDecisions(decisions)
		bytes, okBytes := impl.BytesByPeer(served)
		if !ok || !okCounts || !okBytes {
			t.Fatalf("RunEvents(%v, %v) = %v, %v, %v", g, list, got, decisions, served)
		}
		var came []impl.Packet
		offers := 0
		for _, e := range list {
			if e.Serve > 0 {
				continue
			}
			if decisions[offers] == 1 {
				came = append(came, e.Packet)
			}
			offers++
		}
		if len(decisions) != offers || totalUsed(counts) != offers || counts[1] != len(came) {
			t.Errorf("of %d packets, %v are decided", offers, counts)
		}
		in := sizesByPeer(came)
		for peer, before := range bytesByHand(g.Lanes) {
			if before+in[peer] != bytes[peer]+got.Memory.Used[peer] {
				t.Errorf("the peer %d had %d bytes, %d came, %d are served, and %d wait", peer, before, in[peer], bytes[peer], got.Memory.Used[peer])
			}
		}
		checkFairness(t, bytes, fairnessByHand(bytes))
		checkTop(t, bytes, 8, topByHand(bytes, 8)...)
		checkReport(t, decisions, served, reportByHand(decisions, served))
	}
}

func pieceOfEvents(list []impl.Event) memoryPiece {
	return pieceOf("events", list, impl.Event{Time: 77, Serve: 77}, func(e impl.Event) string { return fmt.Sprint(e) })
}

func pieceOfText(text string) memoryPiece {
	return pieceOf("text", []string{text}, "other", func(text string) string { return text })
}

// reportArgument is the arguments of a call that counts.
type reportArgument struct {
	numbers []int
	packets []impl.Packet
}

func piecesOfReport(a reportArgument) []memoryPiece {
	return []memoryPiece{pieceOfNumbers("numbers", a.numbers), pieceOfPackets("packets", a.packets)}
}

// reportCalls returns, by name, calls that count, each of which returns all memory of its result.
func reportCalls() map[string]func(a reportArgument) []memoryPiece {
	top := func(count int) func(a reportArgument) []memoryPiece {
		return func(a reportArgument) []memoryPiece {
			got, _ := impl.TopPeers(a.numbers, count)
			return []memoryPiece{pieceOfNumbers("places", got)}
		}
	}
	count := func(a reportArgument) []memoryPiece {
		got, _ := impl.CountDecisions(a.numbers)
		return []memoryPiece{pieceOfNumbers("counts", got)}
	}
	add := func(a reportArgument) []memoryPiece {
		got, _ := impl.BytesByPeer(a.packets)
		return []memoryPiece{pieceOfNumbers("bytes", got)}
	}
	measure := func(a reportArgument) []memoryPiece {
		return []memoryPiece{pieceOfText(fmt.Sprintln(impl.FairnessOf(a.numbers)) + impl.FormatReport(a.numbers, a.packets))}
	}
	return map[string]func(a reportArgument) []memoryPiece{
		"TopPeers of none": top(0), "TopPeers of one": top(1), "TopPeers of some": top(3), "TopPeers of all": top(16), "TopPeers of a negative count": top(-1),
		"CountDecisions": count, "BytesByPeer": add, "FairnessOf and FormatReport": measure,
	}
}

// memoryReports returns lists with spare capacity, in which a careless append would write.
func memoryReports() []reportArgument {
	numbers := slices.Concat(decisionLists()[:30], smallWants()[40:80], limitShares(), noDecisions()[:20], refusedShares())
	packets := append(packetLists(), refusedPackets()[:20]...)
	var list []reportArgument
	for i, row := range numbers {
		served := packets[i%len(packets)]
		served = served[:min(len(served), 70)]
		list = append(list, reportArgument{
			numbers: append(slices.Clone(row), 3, 2, 1)[:len(row)],
			packets: append(slices.Clone(served), repeated(5)...)[:len(served)],
		})
	}
	return list
}

func TestArgumentsOfReportsStayAsTheyAre(t *testing.T) {
	checkUnchanged(t, reportCalls(), memoryReports(), piecesOfReport)
}

func TestResultsOfReportsShareNoMemory(t *testing.T) {
	checkApart(t, reportCalls(), memoryReports())
}

// eventArgument is the arguments of a call with events.
type eventArgument struct {
	g    impl.Guard
	list []impl.Event
}

func piecesOfEvents(a eventArgument) []memoryPiece {
	return append(piecesOfGuard(a.g), pieceOfEvents(a.list))
}

func eventCalls() map[string]func(a eventArgument) []memoryPiece {
	run := func(a eventArgument) []memoryPiece {
		got, decisions, served, _ := impl.RunEvents(a.g, a.list)
		return append(piecesOfGuard(got), pieceOfNumbers("decisions", decisions), pieceOfPackets("served", served))
	}
	return map[string]func(a eventArgument) []memoryPiece{"RunEvents": run}
}

// memoryEvents returns guards and events whose lists have spare capacity, in which a careless append would write.
func memoryEvents() []eventArgument {
	var list []eventArgument
	for i, g := range memoryGuards() {
		for _, events := range [][]impl.Event{
			nil, {}, eventsOf(g.Time, 1), eventsOf(g.Time, 5), {serveAt(g.Time, 1)}, {serveAt(g.Time, 1), serveAt(g.Time, 2)}, {serveAt(g.Time, mostInt)},
			mixedEvents(i, g.Time, 3), mixedEvents(i, g.Time, 32), eventsOf(g.Time, 33), append(eventsOf(g.Time, 3), impl.Event{}),
		} {
			events = append(slices.Clone(events), serveAt(5, 5), serveAt(6, 6))[:len(events)]
			list = append(list, eventArgument{g, events})
		}
	}
	return list
}

func TestGuardsAndEventsStayAsTheyAre(t *testing.T) {
	checkUnchanged(t, eventCalls(), memoryEvents(), piecesOfEvents)
}

func TestResultsOfEventsShareNoMemory(t *testing.T) {
	checkApart(t, eventCalls(), memoryEvents()[:60])
}

// TestFunctionsOfReportsKeepNothing calls all functions twice, with others in between.
func TestFunctionsOfReportsKeepNothing(t *testing.T) {
	numbers, packets := append(shareLists()[:400], noDecisions()...), append(packetLists(), refusedPackets()...)
	numbers = append(numbers, decisionLists()[:200]...)
	text := func(i int) string {
		row, served, g := numbers[i], packets[i%len(packets)], mixedGuard(i%20)
		return fmt.Sprintln(impl.CountDecisions(row)) + fmt.Sprintln(impl.BytesByPeer(served)) + fmt.Sprintln(impl.FairnessOf(row)) + fmt.Sprintln(impl.TopPeers(row, i%5)) +
			fmt.Sprintln(impl.RunEvents(g, mixedEvents(i, g.Time, i%40))) + impl.FormatReport(row, served)
	}
	var before []string
	for i := range numbers {
		before = append(before, text(i))
	}
	for i := range slices.Backward(numbers) {
		if second := text(i); second != before[i] {
			t.Errorf("the functions of %v return %q, and then %q", numbers[i], before[i], second)
		}
	}
}
