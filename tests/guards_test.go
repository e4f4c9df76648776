package tests

import (
	"fmt"
	"slices"
	"testing"

	"loop.example/trafficguard/impl"
)

// settingsMade returns the settings of the document, in memory of their own.
func settingsMade() impl.Settings {
	return impl.Settings{Rate: 50, Burst: 250, PeerRate: 10, PeerBurst: 100, Memory: 200, Each: 120, Quantum: 100, Weights: []int{2, 1, 1, 1}}
}

// changedSettings returns settings of which one field is another number, and the weights of each lane.
func changedSettings(rates []int, bursts []int, quanta []int, weights []int) []impl.Settings {
	var list []impl.Settings
	change := func(numbers []int, how func(s *impl.Settings, n int)) {
		for _, n := range numbers {
			s := settingsMade()
			how(&s, n)
			list = append(list, s)
		}
	}
	change(rates, func(s *impl.Settings, n int) { s.Rate = n })
	change(rates, func(s *impl.Settings, n int) { s.PeerRate = n })
	change(bursts, func(s *impl.Settings, n int) { s.Burst = n })
	change(bursts, func(s *impl.Settings, n int) { s.PeerBurst = n })
	change(quanta, func(s *impl.Settings, n int) { s.Quantum = n })
	for lane := range 4 {
		change(weights, func(s *impl.Settings, n int) { s.Weights[lane] = n })
	}
	return list
}

// withMemory returns settings with these limits of the account.
func withMemory(memory int, each int) impl.Settings {
	s := settingsMade()
	s.Memory, s.Each = memory, each
	return s
}

// limitSettings returns valid settings with fields at their limits.
func limitSettings() []impl.Settings {
	list := changedSettings([]int{0, 1, 999, 1000}, []int{1, 2, 9999, 10000}, []int{1, 2, 499, 500}, []int{1, 2, 8, 9})
	for _, pair := range [][2]int{{1, 1}, {2, 1}, {2, 2}, {120, 120}, {4999, 4999}, {5000, 1}, {5000, 4999}, {5000, 5000}} {
		list = append(list, withMemory(pair[0], pair[1]))
	}
	return append(list, settingsMade())
}

// invalidSettings returns settings of which one field is wrong.
func invalidSettings() []impl.Settings {
	list := changedSettings([]int{-1, 1001, leastInt, mostInt}, []int{-1, 0, 10001, leastInt, mostInt}, []int{-1, 0, 501, leastInt, mostInt}, []int{-1, 0, 10, leastInt, mostInt})
	for _, pair := range [][2]int{{0, 0}, {0, 1}, {-1, -1}, {1, 2}, {119, 120}, {200, 201}, {200, 0}, {200, -1}, {5001, 120}, {5001, 5001}, {5000, 5001}, {mostInt, mostInt}, {leastInt, leastInt}} {
		list = append(list, withMemory(pair[0], pair[1]))
	}
	for _, count := range []int{0, 1, 3, 5, 8, 1000} {
		s := settingsMade()
		s.Weights = slices.Repeat([]int{1}, count)
		list = append(list, s)
	}
	return append(list, impl.Settings{}, impl.Settings{Weights: []int{2, 1, 1, 1}})
}

// guardMade makes a guard by hand, so that it does not depend on the program.
func guardMade(s impl.Settings, now int) impl.Guard {
	g := impl.Guard{Time: now, All: impl.Bucket{Rate: s.Rate, Burst: s.Burst, Level: s.Burst, At: now}}
	for range 8 {
		g.Each = append(g.Each, impl.Bucket{Rate: s.PeerRate, Burst: s.PeerBurst, Level: s.PeerBurst, At: now})
		g.Scores = append(g.Scores, impl.Score{At: now})
	}
	g.Memory = impl.Account{Limit: s.Memory, Each: s.Each, Used: usedByAll(0)}
	g.Lanes = lanesMade(s.Weights, s.Weights, slices.Repeat([]impl.Robin{robinMade(s.Quantum)}, 4)...)
	return g
}

// bytesByHand adds the sizes of all packets that wait, by peer.
func bytesByHand(l impl.Lanes) []int {
	bytes := usedByAll(0)
	for _, r := range l.Robins {
		for _, f := range r.Flows {
			for _, p := range f.Waits {
				if p.Peer >= 0 && p.Peer < 8 {
					bytes[p.Peer] += p.Size
				}
			}
		}
	}
	return bytes
}

// holding returns g with these lanes, and an account that has room for this many bytes more, of all and of the peer with the most.
func holding(g impl.Guard, l impl.Lanes, room int, each int) impl.Guard {
	used := bytesByHand(l)
	g.Lanes = copiedLanes(l)
	g.Memory = impl.Account{Limit: min(max(totalUsed(used)+room, 1), 5000), Used: used}
	g.Memory.Each = min(max(slices.Max(used)+each, 1), g.Memory.Limit)
	return g
}

// waitingLanes returns lanes in which these packets wait, which joined one after the other.
func waitingLanes(list ...impl.Packet) impl.Lanes {
	l := lanesMade([]int{2, 1, 1, 1}, []int{2, 1, 1, 1}, slices.Repeat([]impl.Robin{robinMade(100)}, 4)...)
	for _, p := range list {
		l = joinedLanesByHand(l, p)
	}
	return l
}

// mixedGuard returns a guard with packets, levels and points from a row of numbers.
func mixedGuard(seed int) impl.Guard {
	row := numberRow(seed, 100, 10000)
	l := mixedLanes(seed)
	for totalUsed(bytesByHand(l)) > 4500 {
		for lane, r := range l.Robins {
			l.Robins[lane].Flows = r.Flows[:len(r.Flows)/2]
		}
	}
	g := holding(guardMade(settingsMade(), 1000+row[0]), l, row[1]%200, row[2]%100)
	bucket := func(place int) impl.Bucket {
		burst := 1 + row[place]%200
		return impl.Bucket{Rate: row[place+1] % 9, Burst: burst, Level: row[place+2] % (burst + 1), At: g.Time - row[place+3]%8}
	}
	g.All = bucket(3)
	for peer := range 8 {
		g.Each[peer] = bucket(7 + 4*peer)
		g.Scores[peer] = impl.Score{Points: row[40+peer] % 100, At: g.Time - row[50+peer]%40, Until: row[60+peer] % 1000, Bans: row[70+peer] % 11}
		// Some bans go on, and some of these end soon.
		if row[80+peer]%3 == 0 {
			g.Scores[peer].Until = g.Time + row[60+peer]%30
		}
	}
	return g
}

func mixedGuards() []impl.Guard {
	var list []impl.Guard
	for seed := range 120 {
		list = append(list, mixedGuard(seed))
	}
	return list
}

// limitGuards returns valid guards with fields or numbers of bytes at their limits.
func limitGuards() []impl.Guard {
	small := lanesMade([]int{2, 1, 1, 1}, []int{0, 0, 0, 0}, slices.Repeat([]impl.Robin{robinMade(50, flowsOfAll(0, 64, 1)...)}, 4)...)
	parts := lanesMade([]int{9, 9, 9, 9}, []int{9, 0, 9, 0}, robinMade(500, flowsOfAll(0, 6, 100)...), robinMade(500), robinMade(500, flowsOfAll(0, 1, 25)...), robinMade(500))
	whole := lanesMade([]int{1, 1, 1, 1}, []int{0, 1, 0, 1}, robinMade(1, flowOfCount(7, 0, 13, 100)), robinMade(1, flowOfCount(7, 0, 13, 100)), robinMade(1, flowOfCount(7, 0, 12, 100)), robinMade(1, flowOfCount(7, 0, 12, 100)))
	one := waitingLanes(impl.Packet{Peer: 7, Lane: 3, Size: 1})
	var list []impl.Guard
	for _, now := range []int{0, 1000000} {
		for _, l := range []impl.Lanes{small, parts, whole, one, waitingLanes()} {
			g := guardMade(settingsMade(), now)
			list = append(list, holding(g, l, 0, 0), holding(g, l, 5000, 0), holding(g, l, 5000, 5000))
		}
	}
	buckets, scores := limitBuckets(), limitScores()
	for i := range 60 {
		g := guardMade(settingsMade(), 1000000)
		g.All = buckets[(9*i+8)%len(buckets)]
		for peer := range 8 {
			g.Each[peer], g.Scores[peer] = buckets[(9*i+peer)%len(buckets)], scores[(8*i+peer)%len(scores)]
		}
		list = append(list, g)
	}
	return list
}

// newGuards returns guards without packets, at the first and the last time.
func newGuards() []impl.Guard {
	var list []impl.Guard
	for _, s := range limitSettings() {
		list = append(list, guardMade(s, 0), guardMade(s, 1000000))
	}
	return list
}

func validGuards() []impl.Guard {
	return slices.Concat(newGuards(), mixedGuards(), limitGuards(), []impl.Guard{guardToSpoil()})
}

// guardToSpoil returns a valid guard in memory of its own, in which the peers 2 and 5 have packets, the memory is used up, and the parts have different times.
func guardToSpoil() impl.Guard {
	g := holding(guardMade(settingsMade(), 50), lanesToSpoil(), 0, 0)
	g.All.At = 49
	for peer := range 8 {
		g.Each[peer].At, g.Scores[peer].At = 50-peer, 43+peer
	}
	return g
}

// spoiledGuards returns guards that are made of a valid one each.
func spoiledGuards(hows ...func(g *impl.Guard)) []impl.Guard {
	var list []impl.Guard
	for _, how := range hows {
		g := guardToSpoil()
		how(&g)
		list = append(list, g)
	}
	return list
}

// invalidGuards returns guards of which one part is wrong, at each place.
func invalidGuards() []impl.Guard {
	list := []impl.Guard{{}, {Time: 50}}
	for _, n := range []int{-1, 48, 49, 1000001, leastInt, mostInt} {
		list = append(list, spoiledGuards(func(g *impl.Guard) { g.Time = n })...)
	}
	return slices.Concat(list, guardsWithWrongBuckets(), guardsWithWrongScores(), guardsWithWrongMemory(), guardsWithWrongLanes())
}

func guardsWithWrongBuckets() []impl.Guard {
	late := impl.Bucket{Rate: 10, Burst: 100, Level: 50, At: 51}
	last := impl.Bucket{Rate: 10, Burst: 100, Level: 50, At: 1000000}
	var list []impl.Guard
	for _, b := range append(invalidBuckets(), late, last) {
		list = append(list, spoiledGuards(func(g *impl.Guard) { g.All = b })...)
		for peer := range 8 {
			list = append(list, spoiledGuards(func(g *impl.Guard) { g.Each[peer] = b })...)
		}
	}
	return append(list, spoiledGuards(
		func(g *impl.Guard) { g.Each = nil },
		func(g *impl.Guard) { g.Each = g.Each[:1] },
		func(g *impl.Guard) { g.Each = g.Each[:7] },
		func(g *impl.Guard) { g.Each = append(g.Each, g.Each[0]) },
		func(g *impl.Guard) { g.Each = append(g.Each, g.Each...) },
		func(g *impl.Guard) { g.Each, g.Scores = g.Each[:7], g.Scores[:7] },
	)...)
}

func guardsWithWrongScores() []impl.Guard {
	var list []impl.Guard
	for _, s := range append(invalidScores(), impl.Score{At: 51}, impl.Score{At: 1000000}) {
		for peer := range 8 {
			list = append(list, spoiledGuards(func(g *impl.Guard) { g.Scores[peer] = s })...)
		}
	}
	return append(list, spoiledGuards(
		func(g *impl.Guard) { g.Scores = nil },
		func(g *impl.Guard) { g.Scores = g.Scores[:1] },
		func(g *impl.Guard) { g.Scores = g.Scores[:7] },
		func(g *impl.Guard) { g.Scores = append(g.Scores, g.Scores[0]) },
		func(g *impl.Guard) { g.Scores = append(g.Scores, g.Scores...) },
	)...)
}

// guardsWithWrongMemory returns guards whose account is not valid, or is not what waits.
func guardsWithWrongMemory() []impl.Guard {
	var list []impl.Guard
	for _, a := range append(invalidAccounts(), limitAccounts()...) {
		list = append(list, spoiledGuards(func(g *impl.Guard) { g.Memory = a })...)
		empty := guardMade(settingsMade(), 50)
		empty.Memory = a
		// Without packets, an account that is valid and not used is right.
		if len(a.Used) != 8 || totalUsed(a.Used) != 0 || a.Limit < 1 || a.Limit > 5000 || a.Each < 1 || a.Each > a.Limit {
			list = append(list, empty)
		}
	}
	for peer := range 8 {
		list = append(list, spoiledGuards(
			func(g *impl.Guard) {
				g.Memory.Limit, g.Memory.Each, g.Memory.Used[peer] = 1001, 1001, g.Memory.Used[peer]+1
			},
			func(g *impl.Guard) { g.Memory.Used[peer]-- },
			func(g *impl.Guard) { g.Memory.Limit, g.Memory.Used[peer] = 5000, 300 },
		)...)
	}
	return append(list, spoiledGuards(
		func(g *impl.Guard) { g.Memory.Limit = 999 },
		func(g *impl.Guard) { g.Memory.Each = 599 },
		func(g *impl.Guard) { g.Memory.Limit = 5001 },
		func(g *impl.Guard) { g.Memory.Each = 1001 },
		func(g *impl.Guard) { g.Memory.Used = usedByAll(0) },
		func(g *impl.Guard) { g.Memory.Used = append(g.Memory.Used, 0) },
		func(g *impl.Guard) { g.Memory.Used = g.Memory.Used[:7] },
		func(g *impl.Guard) { g.Memory.Used = usedBy([2]int{2, 600}, [2]int{5, 400}) },
		func(g *impl.Guard) { g.Memory.Used = usedBy([2]int{2, 500}, [2]int{5, 500}) },
	)...)
}

// guardsWithWrongLanes returns guards whose lanes are not valid, or are not what is used.
func guardsWithWrongLanes() []impl.Guard {
	var list []impl.Guard
	for _, l := range invalidLanes() {
		g := guardToSpoil()
		g.Lanes = l
		list = append(list, g)
		// What waits is counted all the same, as far as an account may have it.
		if used := bytesByHand(l); totalUsed(used) < 5000 && slices.Min(used) >= 0 {
			list = append(list, holding(guardToSpoil(), l, 0, 0))
		}
	}
	for lane := range 4 {
		list = append(list, spoiledGuards(
			func(g *impl.Guard) { g.Lanes.Robins[lane].Flows = g.Lanes.Robins[lane].Flows[:1] },
			func(g *impl.Guard) { g.Lanes.Robins[lane].Flows[1].Waits = g.Lanes.Robins[lane].Flows[1].Waits[:2] },
			func(g *impl.Guard) { g.Lanes.Robins[lane].Flows[0].Waits[1].Size = 49 },
			func(g *impl.Guard) { g.Lanes.Robins[lane].Flows = nil },
		)...)
	}
	return list
}

// sameGuard compares by hand, so that it does not depend on the program.
func sameGuard(a impl.Guard, b impl.Guard) bool {
	return a.Time == b.Time && a.All == b.All && slices.Equal(a.Each, b.Each) && sameAccount(a.Memory, b.Memory) &&
		sameLanes(a.Lanes, b.Lanes) && slices.Equal(a.Scores, b.Scores)
}

func isZeroGuard(g impl.Guard) bool {
	return sameGuard(g, impl.Guard{})
}

// copiedGuard returns a guard with memory of its own.
func copiedGuard(g impl.Guard) impl.Guard {
	g.Each, g.Scores, g.Memory.Used = slices.Clone(g.Each), slices.Clone(g.Scores), slices.Clone(g.Memory.Used)
	g.Lanes = copiedLanes(g.Lanes)
	return g
}

// filledByHand lets a bucket wait as long as it is not full.
func filledByHand(b impl.Bucket, now int) impl.Bucket {
	for ; b.At < now && b.Rate > 0 && b.Level < b.Burst; b.At++ {
		b.Level = min(b.Level+b.Rate, b.Burst)
	}
	b.At = now
	return b
}

// offeredByHand decides about a packet, and writes the decisions as numbers, as the document does.
func offeredByHand(g impl.Guard, p impl.Packet, now int) (impl.Guard, int) {
	g = copiedGuard(g)
	g.Time = now
	each, all := filledByHand(g.Each[p.Peer], now), filledByHand(g.All, now)
	_, waits := waitingByHand(g.Lanes.Robins[p.Lane], p.Peer)
	if g.Scores[p.Peer].Until > now {
		return g, 2
	}
	if each.Level < p.Size {
		g.Scores[p.Peer], _ = blamedByHand(g.Scores[p.Peer], now, 20)
		return g, 3
	}
	if all.Level < p.Size {
		return g, 4
	}
	if freeByHand(g.Memory, p.Peer) < p.Size || len(waits) == 64 {
		return g, 5
	}
	each.Level -= p.Size
	all.Level -= p.Size
	g.Each[p.Peer], g.All = each, all
	g.Memory.Used[p.Peer] += p.Size
	g.Lanes = joinedLanesByHand(g.Lanes, p)
	return g, 1
}

func allOfferedByHand(g impl.Guard, list []impl.Packet, now int) (impl.Guard, []int) {
	g.Time = now
	var decisions []int
	for _, p := range list {
		next, decision := offeredByHand(g, p, now)
		g, decisions = next, append(decisions, decision)
	}
	return g, decisions
}

func servedByHand(g impl.Guard, now int, count int) (impl.Guard, []impl.Packet) {
	lanes, list := takenOfLanesByHand(g.Lanes, count)
	g.Time, g.Lanes, g.Memory.Used = now, lanes, bytesByHand(lanes)
	return g, list
}

func kickedByHand(g impl.Guard, peer int, now int) (impl.Guard, []impl.Packet) {
	g = copiedGuard(g)
	lanes, list := leftByHand(g.Lanes, peer)
	g.Time, g.Lanes, g.Memory.Used[peer] = now, lanes, 0
	g.Scores[peer], _ = blamedByHand(g.Scores[peer], now, 100)
	return g, list
}

// checkNotOffered expects that both functions that offer refuse a packet.
func checkNotOffered(t *testing.T, g impl.Guard, p impl.Packet, now int) {
	t.Helper()
	if got, decision, ok := impl.Offer(g, p, now); ok || decision != 0 || !isZeroGuard(got) {
		t.Errorf("Offer(%v, %v, %d) = %v, %d, %v", g, p, now, got, decision, ok)
	}
	checkNoneOffered(t, g, []impl.Packet{p}, now)
}

func checkNoneOffered(t *testing.T, g impl.Guard, list []impl.Packet, now int) {
	t.Helper()
	if got, decisions, ok := impl.OfferAll(g, list, now); ok || len(decisions) != 0 || !isZeroGuard(got) {
		t.Errorf("OfferAll(%v, %v, %d) = %v, %v, %v", g, list, now, got, decisions, ok)
	}
}

func checkNotServed(t *testing.T, g impl.Guard, now int, count int) {
	t.Helper()
	if got, list, ok := impl.Serve(g, now, count); ok || len(list) != 0 || !isZeroGuard(got) {
		t.Errorf("Serve(%v, %d, %d) = %v, %v, %v", g, now, count, got, list, ok)
	}
}

func checkNotKicked(t *testing.T, g impl.Guard, peer int, now int) {
	t.Helper()
	if got, list, ok := impl.KickPeer(g, peer, now); ok || len(list) != 0 || !isZeroGuard(got) {
		t.Errorf("KickPeer(%v, %d, %d) = %v, %v, %v", g, peer, now, got, list, ok)
	}
}

// checkNotGuarded expects that every function of a guard and a time refuses both.
func checkNotGuarded(t *testing.T, g impl.Guard, now int) {
	t.Helper()
	checkNotOffered(t, g, impl.Packet{Peer: 1, Lane: 1, Size: 5}, now)
	checkNotOffered(t, g, impl.Packet{}, now)
	checkNoneOffered(t, g, nil, now)
	for _, count := range []int{0, 1, mostInt, -1} {
		checkNotServed(t, g, now, count)
	}
	for _, peer := range []int{0, 2, 7, -1, 8} {
		checkNotKicked(t, g, peer, now)
	}
}

// checkOffered compares with a decision by hand, and returns the guard and the decision.
func checkOffered(t *testing.T, g impl.Guard, p impl.Packet, now int) (impl.Guard, int) {
	t.Helper()
	got, decision, ok := impl.Offer(g, p, now)
	want, number := offeredByHand(g, p, now)
	if !ok || decision != number || !sameGuard(got, want) || !impl.GuardValid(got) {
		t.Fatalf("Offer(%v, %v, %d) = %v, %d, %v, want %v, %d", g, p, now, got, decision, ok, want, number)
	}
	return got, decision
}

// checkDecision offers a packet of a lane, and expects this decision.
func checkDecision(t *testing.T, g impl.Guard, peer int, lane int, size int, now int, want int) impl.Guard {
	t.Helper()
	got, decision := checkOffered(t, g, impl.Packet{Peer: peer, Lane: lane, Size: size, Id: now % 10000}, now)
	if decision != want {
		t.Fatalf("Offer(%v, %d/%d:%d, %d) decides %d, want %d", g, peer, lane, size, now, decision, want)
	}
	return got
}

func checkAllOffered(t *testing.T, g impl.Guard, list []impl.Packet, now int) (impl.Guard, []int) {
	t.Helper()
	got, decisions, ok := impl.OfferAll(g, list, now)
	want, numbers := allOfferedByHand(g, list, now)
	if !ok || !slices.Equal(decisions, numbers) || !sameGuard(got, want) || !impl.GuardValid(got) {
		t.Fatalf("OfferAll(%v, %v, %d) = %v, %v, %v, want %v, %v", g, list, now, got, decisions, ok, want, numbers)
	}
	return got, decisions
}

func checkServed(t *testing.T, g impl.Guard, now int, count int) (impl.Guard, []impl.Packet) {
	t.Helper()
	got, list, ok := impl.Serve(g, now, count)
	want, packets := servedByHand(g, now, count)
	if !ok || !slices.Equal(list, packets) || !sameGuard(got, want) || !impl.GuardValid(got) {
		t.Fatalf("Serve(%v, %d, %d) = %v, %v, %v, want %v, %v", g, now, count, got, list, ok, want, packets)
	}
	return got, list
}

func checkKicked(t *testing.T, g impl.Guard, peer int, now int) (impl.Guard, []impl.Packet) {
	t.Helper()
	got, list, ok := impl.KickPeer(g, peer, now)
	want, packets := kickedByHand(g, peer, now)
	if !ok || !slices.Equal(list, packets) || !sameGuard(got, want) || !impl.GuardValid(got) {
		t.Fatalf("KickPeer(%v, %d, %d) = %v, %v, %v, want %v, %v", g, peer, now, got, list, ok, want, packets)
	}
	return got, list
}

func checkBytes(t *testing.T, g impl.Guard, want ...int) {
	t.Helper()
	if got, ok := impl.BytesOf(g); !ok || !slices.Equal(got, want) {
		t.Errorf("BytesOf(%v) = %v, %v, want %v", g, got, ok, want)
	}
}

func TestDecisionConstants(t *testing.T) {
	if impl.DecideIn != 1 || impl.DecideBanned != 2 || impl.DecideFast != 3 || impl.DecideBusy != 4 || impl.DecideFull != 5 || impl.FastPoints != 20 {
		t.Error("the decisions, or the points, have other numbers")
	}
}

func TestNewGuardsOfSettings(t *testing.T) {
	for _, s := range limitSettings() {
		if !impl.SettingsValid(s) {
			t.Errorf("SettingsValid(%v) = false", s)
		}
		for _, now := range []int{0, 1, 5, 999999, 1000000} {
			got, ok := impl.NewGuard(s, now)
			if !ok || !sameGuard(got, guardMade(s, now)) || !impl.GuardValid(got) {
				t.Errorf("NewGuard(%v, %d) = %v, %v", s, now, got, ok)
			}
		}
		for _, now := range []int{-1, 1000001, leastInt, mostInt} {
			checkNoNewGuard(t, s, now)
		}
	}
}

func checkNoNewGuard(t *testing.T, s impl.Settings, now int) {
	t.Helper()
	if got, ok := impl.NewGuard(s, now); ok || !isZeroGuard(got) {
		t.Errorf("NewGuard(%v, %d) = %v, %v", s, now, got, ok)
	}
}

func TestInvalidSettingsAreRefused(t *testing.T) {
	for _, s := range invalidSettings() {
		if impl.SettingsValid(s) {
			t.Errorf("SettingsValid(%v) = true", s)
		}
		for _, now := range []int{0, 5, 1000000, -1, 1000001} {
			checkNoNewGuard(t, s, now)
		}
	}
}

// TestSettingsAreNotChanged also writes to what was returned, and to what was given.
func TestSettingsAreNotChanged(t *testing.T) {
	s := settingsMade()
	s.Weights = append(s.Weights, 8, 8)[:4]
	first, _ := impl.NewGuard(s, 5)
	second, _ := impl.NewGuard(s, 5)
	overwritePieces(piecesOfGuard(first))
	if !impl.SettingsValid(s) || !slices.Equal(s.Weights[:6], []int{2, 1, 1, 1, 8, 8}) || !sameGuard(second, guardMade(settingsMade(), 5)) {
		t.Errorf("NewGuard shares memory: %v, %v", s.Weights[:6], second)
	}
	overwriteNumbers(s.Weights)
	if !sameGuard(second, guardMade(settingsMade(), 5)) {
		t.Errorf("NewGuard keeps the weights: %v", second)
	}
}

func TestGuardsWithinTheLimitsAreValid(t *testing.T) {
	for _, g := range validGuards() {
		if !impl.GuardValid(g) {
			t.Errorf("GuardValid(%v) = false", g)
		}
		checkBytes(t, g, bytesByHand(g.Lanes)...)
	}
}

func TestInvalidGuardsAreRefused(t *testing.T) {
	for _, g := range invalidGuards() {
		if impl.GuardValid(g) {
			t.Errorf("GuardValid(%v) = true", g)
		}
		if bytes, ok := impl.BytesOf(g); ok || len(bytes) != 0 {
			t.Errorf("BytesOf(%v) = %v, %v", g, bytes, ok)
		}
		for _, now := range []int{g.Time, 60, 1000000} {
			checkNotGuarded(t, g, now)
		}
	}
}

func TestTimesOfGuardsThatAreRefused(t *testing.T) {
	for _, g := range validGuards() {
		for _, now := range []int{g.Time - 1, -1, 1000001, leastInt, mostInt} {
			checkNotGuarded(t, g, now)
		}
	}
	// The time is that of the guard, also where all its parts are of earlier ones.
	g := guardMade(settingsMade(), 10)
	g.Time = 20
	checkNotGuarded(t, g, 10)
	checkNotGuarded(t, g, 19)
	checkDecision(t, g, 1, 1, 5, 20, 1)
}

// otherGuards returns guards that differ from g in one thing each.
func otherGuards(g impl.Guard) []impl.Guard {
	list := []impl.Guard{{}}
	change := func(how func(b *impl.Guard)) {
		b := copiedGuard(g)
		how(&b)
		list = append(list, b)
	}
	buckets := func(bucket func(b *impl.Guard) *impl.Bucket) {
		change(func(b *impl.Guard) { bucket(b).Rate++ })
		change(func(b *impl.Guard) { bucket(b).Burst++ })
		change(func(b *impl.Guard) { bucket(b).Level-- })
		change(func(b *impl.Guard) { bucket(b).At-- })
	}
	change(func(b *impl.Guard) { b.Time++ })
	change(func(b *impl.Guard) { b.Memory.Limit++ })
	change(func(b *impl.Guard) { b.Memory.Each-- })
	change(func(b *impl.Guard) { b.Memory.Used = nil })
	change(func(b *impl.Guard) { b.Each = nil })
	change(func(b *impl.Guard) { b.Each = append(b.Each, b.Each[0]) })
	change(func(b *impl.Guard) { b.Scores = nil })
	change(func(b *impl.Guard) { b.Scores = append(b.Scores, b.Scores[0]) })
	buckets(func(b *impl.Guard) *impl.Bucket { return &b.All })
	for peer := range 8 {
		buckets(func(b *impl.Guard) *impl.Bucket { return &b.Each[peer] })
		change(func(b *impl.Guard) { b.Memory.Used[peer]++ })
		change(func(b *impl.Guard) { b.Scores[peer].Points++ })
		change(func(b *impl.Guard) { b.Scores[peer].At-- })
		change(func(b *impl.Guard) { b.Scores[peer].Until++ })
		change(func(b *impl.Guard) { b.Scores[peer].Bans++ })
	}
	for _, l := range otherLanes(g.Lanes) {
		change(func(b *impl.Guard) { b.Lanes = l })
	}
	return list
}

func TestGuardSameComparesAllFields(t *testing.T) {
	a := guardToSpoil()
	if !impl.GuardSame(a, a) || !impl.GuardSame(a, copiedGuard(a)) {
		t.Error("equal guards are not the same")
	}
	for _, b := range otherGuards(a) {
		if impl.GuardSame(a, b) || impl.GuardSame(b, a) {
			t.Errorf("%v and %v are the same", a, b)
		}
	}
}

func TestGuardSameAcceptsInvalidGuards(t *testing.T) {
	all := invalidGuards()
	for i, a := range all {
		if !impl.GuardSame(a, copiedGuard(a)) {
			t.Errorf("%v is not the same as its copy", a)
		}
		for j := i % 97; j < len(all); j += 97 {
			if got := impl.GuardSame(a, all[j]); got != sameGuard(a, all[j]) {
				t.Errorf("GuardSame(%v, %v) = %v", a, all[j], got)
			}
		}
	}
	empty := impl.Guard{Each: []impl.Bucket{}, Scores: []impl.Score{}, Memory: impl.Account{Used: []int{}}, Lanes: impl.Lanes{Robins: []impl.Robin{}}}
	if !impl.GuardSame(impl.Guard{}, empty) || !impl.GuardSame(empty, impl.Guard{}) {
		t.Error("nil slices and empty slices are not the same")
	}
}

// guardInState returns a guard at the time 98, in which a packet of 40 bytes of the peer 3 in the lane 1 meets these states at the time 100. Where nothing is wrong, there is just enough.
func guardInState(banned bool, fast bool, busy bool, full int) impl.Guard {
	g := guardMade(withMemory(5000, 5000), 98)
	g.Scores[3] = impl.Score{Points: 70, At: 90, Until: 100, Bans: 1}
	g.Each[3] = impl.Bucket{Rate: 10, Burst: 100, Level: 10, At: 97}
	g.All = impl.Bucket{Rate: 5, Burst: 250, Level: 30, At: 98}
	if banned {
		g.Scores[3].Until = 101
	}
	if fast {
		g.Each[3].Level = 9
	}
	if busy {
		g.All.Level = 29
	}
	other, own := impl.Packet{Peer: 6, Lane: 2, Size: 80}, impl.Packet{Peer: 3, Lane: 0, Size: 60}
	switch full {
	case 0:
		return holding(g, waitingLanes(other, own), 40, 20)
	case 1: // One byte is missing to all.
		return holding(g, waitingLanes(other, own), 39, 200)
	case 2: // One byte is missing to the peer.
		return holding(g, waitingLanes(other, own), 200, 19)
	}
	// The flow of the peer is as long as can be.
	l := waitingLanes(other)
	l.Robins[1] = setLane(robinMade(100, flowOfCount(3, 0, 64, 1)), 1)
	return holding(g, l, 200, 200)
}

// TestOrderOfDecisions has all ways in which several decisions fit, of which the first one counts, and changes what it changes alone.
func TestOrderOfDecisions(t *testing.T) {
	p := impl.Packet{Peer: 3, Lane: 1, Size: 40, Id: 100}
	for state := range 32 {
		banned, fast, busy, full := state&1 > 0, state&2 > 0, state&4 > 0, state>>3
		g := guardInState(banned, fast, busy, full)
		want := copiedGuard(g)
		want.Time = 100
		decision := 1
		switch {
		case banned:
			decision = 2
		case fast:
			decision = 3
			want.Scores[3] = impl.Score{Points: 80, At: 100, Until: 100, Bans: 1}
		case busy:
			decision = 4
		case full > 0:
			decision = 5
		default:
			want.Each[3] = impl.Bucket{Rate: 10, Burst: 100, At: 100}
			want.All = impl.Bucket{Rate: 5, Burst: 250, At: 100}
			want.Memory.Used[3] += 40
			want.Lanes = joinedLanesByHand(want.Lanes, p)
		}
		got, decided, ok := impl.Offer(g, p, 100)
		if !ok || decided != decision || !sameGuard(got, want) {
			t.Errorf("Offer(%v, %v, 100) = %v, %d, %v, want %v, %d", g, p, got, decided, ok, want, decision)
		}
		checkOffered(t, g, p, 100)
	}
}

// TestDecisionsOfAllGuards has packets of all peers and lanes, and expects each decision often enough.
func TestDecisionsOfAllGuards(t *testing.T) {
	counts := make([]int, 6)
	for i, g := range slices.Concat(mixedGuards(), limitGuards(), newGuards()) {
		for peer := range 8 {
			for _, size := range []int{1, 2, 30, 100} {
				p := impl.Packet{Peer: peer, Lane: (i + size + peer) % 4, Size: size, Id: i}
				_, decision := checkOffered(t, g, p, min(g.Time+(i+peer)%7, 1000000))
				counts[decision]++
			}
		}
	}
	for decision := 1; decision <= 5; decision++ {
		if counts[decision] < 100 {
			t.Errorf("only %d packets get the decision %d", counts[decision], decision)
		}
	}
}

func TestExampleOfGuards(t *testing.T) {
	g := guardMade(settingsMade(), 5)
	g = checkDecision(t, g, 1, 0, 60, 5, 1)
	g = checkDecision(t, g, 1, 0, 60, 5, 3)
	if g.Each[1].Level != 40 || g.All.Level != 190 || g.Scores[1] != (impl.Score{Points: 20, At: 5}) {
		t.Errorf("the guard is %v", g)
	}
	checkBytes(t, g, 0, 60, 0, 0, 0, 0, 0, 0)
}

func TestJustEnoughTokens(t *testing.T) {
	for size := 1; size <= 100; size++ {
		g := guardMade(settingsMade(), 7)
		g.Each[4] = impl.Bucket{Rate: 1, Burst: 100, Level: size - 1, At: 7}
		checkDecision(t, g, 4, 2, size, 7, 3)
		g = checkDecision(t, g, 4, 2, size, 8, 1)
		if g.Each[4].Level != 0 {
			t.Errorf("the packet of %d bytes leaves %v", size, g.Each[4])
		}
		g = guardMade(settingsMade(), 7)
		g.All = impl.Bucket{Rate: 1, Burst: 100, Level: size - 1, At: 7}
		checkDecision(t, g, 4, 2, size, 7, 4)
		g = checkDecision(t, g, 4, 2, size, 8, 1)
		if g.All.Level != 0 {
			t.Errorf("the packet of %d bytes leaves %v", size, g.All)
		}
	}
}

// TestPacketThatTheSecondBucketRefuses does not pay: its peer has all its tokens still, and no points.
func TestPacketThatTheSecondBucketRefuses(t *testing.T) {
	g := guardMade(settingsMade(), 5)
	g.All = impl.Bucket{Rate: 10, Burst: 250, Level: 59, At: 5}
	g.Each[1] = impl.Bucket{Rate: 10, Burst: 100, Level: 60, At: 5}
	for range 10 {
		g = checkDecision(t, g, 1, 0, 60, 5, 4)
	}
	if g.Each[1].Level != 60 || g.All.Level != 59 || g.Scores[1] != (impl.Score{At: 5}) {
		t.Errorf("a packet that is refused pays: %v", g)
	}
	checkBytes(t, g, usedByAll(0)...)
	// A smaller packet does not wait behind it, and one of the same size is let in as soon as there are tokens for all.
	checkDecision(t, g, 1, 0, 59, 5, 1)
	g = checkDecision(t, g, 1, 0, 60, 6, 1)
	if g.Each[1] != (impl.Bucket{Rate: 10, Burst: 100, Level: 10, At: 6}) || g.All != (impl.Bucket{Rate: 10, Burst: 250, Level: 9, At: 6}) {
		t.Errorf("a packet that is let in does not pay: %v", g)
	}
	g = checkDecision(t, g, 2, 0, 19, 7, 1)
	checkDecision(t, g, 3, 0, 1, 7, 4)
	checkDecision(t, g, 1, 0, 21, 7, 3)
}

// TestPeerThatComesTooFast is banned with the fifth packet at one time, and is let in when the ban has ended.
func TestPeerThatComesTooFast(t *testing.T) {
	g := guardMade(settingsMade(), 5)
	g.Each[1] = impl.Bucket{Rate: 1, Burst: 100, Level: 50, At: 5}
	for i := range 4 {
		g = checkDecision(t, g, 1, i, 60, 5, 3)
		if g.Scores[1] != (impl.Score{Points: 20 * (i + 1), At: 5}) {
			t.Errorf("packet %d makes the score %v", i, g.Scores[1])
		}
		checkDecision(t, g, 1, i, 50, 5, 1)
	}
	g = checkDecision(t, g, 1, 0, 60, 5, 3)
	if g.Scores[1] != (impl.Score{At: 5, Until: 55, Bans: 1}) {
		t.Errorf("the fifth packet makes the score %v", g.Scores[1])
	}
	// Its tokens, which come in all the same, do not help it, and it gets no points now.
	for _, now := range []int{5, 6, 30, 54} {
		g = checkDecision(t, g, 1, 0, 60, now, 2)
		g = checkDecision(t, g, 1, 3, 1, now, 2)
		checkDecision(t, g, 2, 0, 60, now, 1)
	}
	if g.Scores[1] != (impl.Score{At: 5, Until: 55, Bans: 1}) || g.Each[1].Level != 50 {
		t.Errorf("a banned peer has %v, %v", g.Scores[1], g.Each[1])
	}
	g = checkDecision(t, g, 1, 0, 100, 55, 1)
	for range 5 {
		g = checkDecision(t, g, 1, 0, 100, 55, 3)
	}
	if g.Scores[1] != (impl.Score{At: 55, Until: 155, Bans: 2}) {
		t.Errorf("the second ban makes the score %v", g.Scores[1])
	}
}

// TestPointsOfFastPacketsAreForgotten comes too fast once in a while.
func TestPointsOfFastPacketsAreForgotten(t *testing.T) {
	g := guardMade(settingsMade(), 0)
	g.Each[6] = impl.Bucket{Burst: 1, At: 0}
	for i := range 30 {
		g = checkDecision(t, g, 6, 1, 1, 20*i, 3)
	}
	if g.Scores[6] != (impl.Score{Points: 20, At: 580}) {
		t.Errorf("the score is %v", g.Scores[6])
	}
	g.Scores[6] = impl.Score{Points: 80, At: 580}
	if one := checkDecision(t, g, 6, 1, 1, 581, 3); one.Scores[6] != (impl.Score{Points: 99, At: 581}) {
		t.Errorf("the score is %v", one.Scores[6])
	}
	if all := checkDecision(t, g, 6, 1, 1, 580, 3); all.Scores[6] != (impl.Score{At: 580, Until: 630, Bans: 1}) {
		t.Errorf("the score is %v", all.Scores[6])
	}
}

// TestMemoryForAllIsUsedUp fills the account: the packets behind pay nothing, until some are served.
func TestMemoryForAllIsUsedUp(t *testing.T) {
	s := withMemory(200, 120)
	s.Burst = 1000
	g := guardMade(s, 5)
	g = checkDecision(t, g, 1, 0, 90, 5, 1)
	g = checkDecision(t, g, 2, 1, 90, 5, 1)
	for peer := 3; peer < 8; peer++ {
		g = checkDecision(t, g, peer, 2, 21, 5, 5)
	}
	g = checkDecision(t, g, 0, 3, 20, 5, 1)
	for peer := range 8 {
		g = checkDecision(t, g, peer, 0, 1, 5, 5)
	}
	if g.All.Level != 800 || g.Each[3].Level != 100 || g.Each[1].Level != 10 || !slices.Equal(g.Scores, guardMade(s, 5).Scores) {
		t.Errorf("a packet that is refused pays: %v", g)
	}
	checkBytes(t, g, 20, 90, 90, 0, 0, 0, 0, 0)
	g, list := checkServed(t, g, 6, 1)
	if textsOf(list) != "1/0:90#5" {
		t.Errorf("Serve takes %q", textsOf(list))
	}
	checkDecision(t, g, 3, 0, 91, 6, 5)
	g = checkDecision(t, g, 3, 0, 90, 6, 1)
	checkDecision(t, g, 4, 0, 1, 6, 5)
	g, _ = checkKicked(t, g, 2, 6)
	checkDecision(t, g, 4, 0, 91, 6, 5)
	checkDecision(t, g, 4, 0, 90, 6, 1)
}

func TestMemoryForOnePeerIsUsedUp(t *testing.T) {
	s := withMemory(5000, 120)
	s.Burst, s.PeerBurst = 1000, 1000
	g := guardMade(s, 5)
	g = checkDecision(t, g, 1, 0, 100, 5, 1)
	g = checkDecision(t, g, 1, 1, 21, 5, 5)
	g = checkDecision(t, g, 1, 1, 20, 5, 1)
	g = checkDecision(t, g, 1, 2, 1, 5, 5)
	g = checkDecision(t, g, 2, 2, 100, 5, 1)
	if g.Each[1].Level != 880 || g.All.Level != 780 {
		t.Errorf("a packet that is refused pays: %v", g)
	}
	g, _ = checkServed(t, g, 5, mostInt)
	checkDecision(t, g, 1, 1, 100, 5, 1)
}

// TestNoMoreThan64PacketsOfAPeerAreLetIn fills a flow of one lane, with tokens and memory left.
func TestNoMoreThan64PacketsOfAPeerAreLetIn(t *testing.T) {
	for lane := range 4 {
		g := guardMade(withMemory(5000, 5000), 5)
		for range 64 {
			g = checkDecision(t, g, 7, lane, 1, 5, 1)
		}
		full := checkDecision(t, g, 7, lane, 1, 5, 5)
		if !sameGuard(full, g) {
			t.Errorf("a packet that is refused changes %v to %v", g, full)
		}
		checkDecision(t, g, 7, (lane+1)%4, 1, 5, 1)
		checkDecision(t, g, 6, lane, 1, 5, 1)
		g, _ = checkServed(t, g, 5, 1)
		checkDecision(t, g, 7, lane, 1, 5, 1)
	}
}

func TestInvalidPacketsAreNotOffered(t *testing.T) {
	for _, g := range append(mixedGuards()[:20], guardMade(settingsMade(), 5)) {
		for _, p := range invalidPackets() {
			checkNotOffered(t, g, p, g.Time)
			checkNotOffered(t, g, p, g.Time+5)
			valid := impl.Packet{Peer: 1, Lane: 1, Size: 1}
			checkNoneOffered(t, g, []impl.Packet{p, valid, valid}, g.Time)
			checkNoneOffered(t, g, []impl.Packet{valid, p, valid}, g.Time)
			checkNoneOffered(t, g, []impl.Packet{valid, valid, p}, g.Time)
		}
	}
}

func TestNumbersOfPacketsThatAreOffered(t *testing.T) {
	g := guardMade(withMemory(5000, 5000), 5)
	list := slices.Repeat([]impl.Packet{{Peer: 1, Lane: 1, Size: 1}}, 66)
	for _, count := range []int{0, 1, 2, 63, 64} {
		got, decisions := checkAllOffered(t, g, list[:count], 9)
		if len(decisions) != count || got.Memory.Used[1] != count || got.Time != 9 {
			t.Errorf("OfferAll of %d packets = %v, %v", count, got, decisions)
		}
	}
	checkNoneOffered(t, g, list[:65], 9)
	checkNoneOffered(t, g, list, 9)
	checkNoneOffered(t, g, slices.Repeat(list, 100), 9)
}

// TestPacketsAreOfferedOneAfterTheOther has lists in which what is decided about a packet changes what is decided about the next ones.
func TestPacketsAreOfferedOneAfterTheOther(t *testing.T) {
	check := func(text string, want ...int) {
		t.Helper()
		list, ok := impl.ParsePackets(text)
		if _, decisions := checkAllOffered(t, guardMade(settingsMade(), 0), list, 0); !ok || !slices.Equal(decisions, want) {
			t.Errorf("OfferAll(%q) decides %v, want %v", text, decisions, want)
		}
	}
	check("")
	check("1/0:100#1 1/0:1#2 2/0:100#3 3/0:1#4", 1, 3, 1, 5)
	check("0/0:100#1 1/0:50#2 2/0:100#3 2/0:50#4 3/0:10#5", 1, 1, 5, 1, 5)
	check("1/0:90#1 1/0:20#2 1/0:20#3 1/0:20#4 1/0:20#5 1/0:20#6 1/0:10#7 2/0:10#8", 1, 3, 3, 3, 3, 3, 2, 1)
	check("1/0:90#1 1/0:20#2 1/0:20#3 1/0:20#4 1/0:20#5 1/0:10#6 1/0:1#7 1/0:1#8", 1, 3, 3, 3, 3, 1, 3, 2)
	for i, g := range slices.Concat(mixedGuards(), limitGuards()) {
		var list []impl.Packet
		for j, n := range numberRow(i, i%65, 3200) {
			list = append(list, impl.Packet{Peer: n % (1 + i%8), Lane: n / 8 % 4, Size: 1 + n/32%(5+i%96), Id: j})
		}
		checkAllOffered(t, g, list, min(g.Time+i%20, 1000000))
	}
}

func TestServedPackets(t *testing.T) {
	for i, g := range slices.Concat(mixedGuards(), limitGuards(), newGuards()[:10]) {
		now := min(g.Time+i%3, 1000000)
		total := totalUsed(countsByHand(g.Lanes))
		for _, count := range []int{0, 1, 2, total / 2, total - 1, total, total + 1, mostInt} {
			if count >= 0 && total < 300 {
				checkServed(t, g, now, count)
			}
		}
		for _, count := range []int{-1, -2, leastInt} {
			checkNotServed(t, g, now, count)
		}
	}
}

// TestServedPacketsTakeTheirTurns gives the bytes of each one back, and nothing else.
func TestServedPacketsTakeTheirTurns(t *testing.T) {
	g := guardMade(withMemory(5000, 5000), 5)
	list, _ := impl.ParsePackets("1/0:60#1 1/0:30#2 2/0:50#3 3/1:20#4 3/1:10#5 2/3:5#6 1/0:1#7")
	g, _ = checkAllOffered(t, g, list, 5)
	checkBytes(t, g, 0, 91, 55, 30, 0, 0, 0, 0)
	got, taken := checkServed(t, g, 8, 5)
	if want := "1/0:60#1 1/0:30#2 3/1:20#4 2/3:5#6 1/0:1#7"; textsOf(taken) != want {
		t.Errorf("Serve takes %q, want %q", textsOf(taken), want)
	}
	checkBytes(t, got, 0, 0, 50, 10, 0, 0, 0, 0)
	if got.All != g.All || !slices.Equal(got.Each, g.Each) || !slices.Equal(got.Scores, g.Scores) || got.Time != 8 {
		t.Errorf("Serve changes %v to %v", g, got)
	}
	// A banned peer is served what it has.
	g.Scores[1] = impl.Score{At: 5, Until: 100, Bans: 1}
	if _, taken = checkServed(t, g, 8, 1); textsOf(taken) != "1/0:60#1" {
		t.Errorf("Serve takes %q", textsOf(taken))
	}
}

func TestKickedPeers(t *testing.T) {
	for i, g := range slices.Concat(mixedGuards(), limitGuards(), newGuards()[:10]) {
		now := min(g.Time+i%30, 1000000)
		for peer := range 8 {
			got, _ := checkKicked(t, g, peer, now)
			if now < 1000000 {
				checkDecision(t, got, peer, 0, 1, now+1, 2)
			}
		}
		for _, peer := range refusedPeers() {
			checkNotKicked(t, g, peer, now)
		}
	}
}

// TestPeerThatIsKickedTwice is banned for longer the second time, also without packets, and gets no tokens back.
func TestPeerThatIsKickedTwice(t *testing.T) {
	g := guardMade(withMemory(5000, 5000), 5)
	list, _ := impl.ParsePackets("2/3:10#1 1/0:20#2 2/0:30#3 2/3:40#4 3/0:50#5")
	g, _ = checkAllOffered(t, g, list, 5)
	once, gone := checkKicked(t, g, 2, 9)
	if want := "2/0:30#3 2/3:10#1 2/3:40#4"; textsOf(gone) != want || once.Scores[2] != (impl.Score{At: 9, Until: 59, Bans: 1}) {
		t.Errorf("KickPeer = %v, %q, want %q", once, textsOf(gone), want)
	}
	checkBytes(t, once, 0, 20, 0, 50, 0, 0, 0, 0)
	if once.All != g.All || !slices.Equal(once.Each, g.Each) {
		t.Errorf("KickPeer changes the buckets of %v to those of %v", g, once)
	}
	twice, gone := checkKicked(t, once, 2, 10)
	if len(gone) != 0 || twice.Scores[2] != (impl.Score{At: 10, Until: 110, Bans: 2}) {
		t.Errorf("KickPeer = %v, %v", twice, gone)
	}
	checkDecision(t, twice, 2, 0, 1, 109, 2)
	checkDecision(t, twice, 2, 0, 1, 110, 1)
	last, _ := checkKicked(t, guardMade(settingsMade(), 1000000), 7, 1000000)
	if last.Scores[7] != (impl.Score{At: 1000000, Until: 1000050, Bans: 1}) {
		t.Errorf("KickPeer makes the score %v", last.Scores[7])
	}
}

// TestTimeOfAGuardGoesOn calls all functions at the time of a guard and later.
func TestTimeOfAGuardGoesOn(t *testing.T) {
	for _, g := range append(mixedGuards(), newGuards()...) {
		for _, now := range []int{g.Time, min(g.Time+1, 1000000), 1000000} {
			for _, got := range []impl.Guard{
				first3(impl.Offer(g, impl.Packet{Peer: 5, Lane: 2, Size: 9}, now)), first3(impl.OfferAll(g, nil, now)),
				first3(impl.Serve(g, now, 0)), first3(impl.Serve(g, now, 2)), first3(impl.KickPeer(g, 5, now)),
			} {
				if got.Time != now || !impl.GuardValid(got) {
					t.Errorf("at the time %d, %v becomes %v", now, g, got)
				}
			}
			// Without packets, only the time changes.
			want := copiedGuard(g)
			want.Time = now
			if got, _ := checkAllOffered(t, g, nil, now); !sameGuard(got, want) {
				t.Errorf("OfferAll(%v, nil, %d) = %v", g, now, got)
			}
			if got, _ := checkServed(t, g, now, 0); !sameGuard(got, want) {
				t.Errorf("Serve(%v, %d, 0) = %v", g, now, got)
			}
		}
	}
}

// first3 returns the first one of three results.
func first3[T any](g impl.Guard, _ T, _ bool) impl.Guard {
	return g
}

// piecesOfGuard returns all memory of a guard.
func piecesOfGuard(g impl.Guard) []memoryPiece {
	each := pieceOf("Each", g.Each, impl.Bucket{Rate: 777}, func(b impl.Bucket) string { return fmt.Sprint(b) })
	scores := pieceOf("Scores", g.Scores, impl.Score{Points: 777}, func(s impl.Score) string { return fmt.Sprint(s) })
	return append(piecesOfLanes(g.Lanes), each, scores, pieceOfNumbers("Used", g.Memory.Used))
}

// guardCalls returns, by name, calls with guards, each of which returns all memory of its result.
func guardCalls() map[string]func(g impl.Guard) []memoryPiece {
	offer := func(peer int, size int) func(g impl.Guard) []memoryPiece {
		return func(g impl.Guard) []memoryPiece {
			got, _, _ := impl.Offer(g, impl.Packet{Peer: peer, Lane: 1, Size: size, Id: 5}, g.Time+1)
			return piecesOfGuard(got)
		}
	}
	offerAll := func(list ...impl.Packet) func(g impl.Guard) []memoryPiece {
		return func(g impl.Guard) []memoryPiece {
			got, decisions, _ := impl.OfferAll(g, list, g.Time)
			return append(piecesOfGuard(got), pieceOfNumbers("decisions", decisions))
		}
	}
	serve := func(count int) func(g impl.Guard) []memoryPiece {
		return func(g impl.Guard) []memoryPiece {
			got, list, _ := impl.Serve(g, g.Time, count)
			return append(piecesOfGuard(got), pieceOfPackets("packets", list))
		}
	}
	kick := func(peer int) func(g impl.Guard) []memoryPiece {
		return func(g impl.Guard) []memoryPiece {
			got, list, _ := impl.KickPeer(g, peer, g.Time)
			return append(piecesOfGuard(got), pieceOfPackets("packets", list))
		}
	}
	count := func(g impl.Guard) []memoryPiece {
		got, _ := impl.BytesOf(g)
		return []memoryPiece{pieceOfNumbers("bytes", got)}
	}
	several := offerAll(impl.Packet{Peer: 1, Lane: 1, Size: 5}, impl.Packet{Peer: 2, Size: 5}, impl.Packet{Peer: 4, Size: 2}, impl.Packet{Peer: 6, Lane: 3, Size: 1}, impl.Packet{Peer: 6, Lane: 3, Size: 100})
	return map[string]func(g impl.Guard) []memoryPiece{
		"Offer of what is let in": offer(1, 5), "Offer of a new flow": offer(6, 5), "Offer of a banned peer": offer(2, 5),
		"Offer of what is too fast": offer(4, 5), "Offer of what is too much for all": offer(6, 61), "Offer of what is full": offer(6, 50),
		"OfferAll of none": offerAll(), "OfferAll of some": several, "BytesOf": count,
		"Serve of none": serve(0), "Serve of some": serve(3), "Serve of all": serve(mostInt),
		"KickPeer of a peer": kick(1), "KickPeer of another one": kick(3), "KickPeer of none": kick(6),
	}
}

// memoryGuards returns guards whose lists have spare capacity, in which a careless append would write.
func memoryGuards() []impl.Guard {
	var list []impl.Guard
	for _, l := range memoryLanes() {
		g := guardMade(settingsMade(), 5)
		g.All = impl.Bucket{Burst: 100, Level: 60, At: 5}
		g.Each[4] = impl.Bucket{Burst: 100, Level: 3, At: 5}
		g.Scores[2] = impl.Score{Points: 5, At: 5, Until: 30, Bans: 1}
		g.Each = append(g.Each, g.Each[:3]...)[:8]
		g.Scores = append(g.Scores, g.Scores[:3]...)[:8]
		used := bytesByHand(l)
		g.Lanes = l
		g.Memory = impl.Account{Limit: totalUsed(used) + 45, Each: totalUsed(used) + 45, Used: append(used, 7, 7, 7)[:8]}
		list = append(list, g)
	}
	return list
}

func TestGuardsStayAsTheyAre(t *testing.T) {
	list := memoryGuards()
	for i, g := range list {
		memory := piecesOfGuard(g)
		before := textsOfPieces(memory)
		for _, c := range [][3]int{{1, 5, 1}, {6, 5, 1}, {2, 5, 2}, {4, 5, 3}, {6, 61, 4}, {6, 50, 5}} {
			checkDecision(t, g, c[0], 1, c[1], 6, c[2])
		}
		if !impl.GuardSame(g, g) || !slices.Equal(textsOfPieces(memory), before) {
			t.Errorf("the guard %d is changed to %q", i, textsOfPieces(memory))
		}
	}
	checkUnchanged(t, guardCalls(), list, piecesOfGuard)
}

func TestResultsOfGuardsShareNoMemory(t *testing.T) {
	checkApart(t, guardCalls(), memoryGuards()[:20])
}

func TestOfferedPacketsStayAsTheyAre(t *testing.T) {
	g := guardMade(settingsMade(), 5)
	list := append(repeated(10), repeated(5)...)[:10]
	before := slices.Clone(list[:15])
	got, _ := checkAllOffered(t, g, list, 5)
	overwritePieces(piecesOfGuard(got))
	if !slices.Equal(list[:15], before) {
		t.Errorf("OfferAll changes the packets to %v", list[:15])
	}
	got, decisions := checkAllOffered(t, g, list, 5)
	want := copiedGuard(got)
	overwrite(list)
	if !sameGuard(got, want) || len(decisions) != 10 {
		t.Errorf("OfferAll keeps the packets: %v", got)
	}
}

// ledger has what a row of calls has let in and given out.
type ledger struct {
	start  impl.Guard
	joined []impl.Packet
	gone   []impl.Packet
}

// sizesByPeer adds the sizes of packets, by peer.
func sizesByPeer(list []impl.Packet) []int {
	bytes := usedByAll(0)
	for _, p := range list {
		bytes[p.Peer] += p.Size
	}
	return bytes
}

// checkPaid expects that what was let in since the start is paid for.
func (d ledger) checkPaid(t *testing.T, g impl.Guard) {
	t.Helper()
	ticks := g.Time - d.start.Time
	if sum := totalOf(d.joined); sum > d.start.All.Level+ticks*d.start.All.Rate {
		t.Fatalf("%d bytes are let in within %d ticks", sum, ticks)
	}
	for peer, in := range sizesByPeer(d.joined) {
		if in > d.start.Each[peer].Level+ticks*d.start.Each[peer].Rate {
			t.Fatalf("the peer %d gets %d bytes in within %d ticks", peer, in, ticks)
		}
	}
}

// checkWaiting expects that memory is what waits, which came since the start, and has not left.
func (d ledger) checkWaiting(t *testing.T, g impl.Guard) {
	t.Helper()
	out := sizesByPeer(d.gone)
	for peer, in := range sizesByPeer(d.joined) {
		if g.Memory.Used[peer] != in-out[peer] || in-out[peer] > g.Memory.Each {
			t.Fatalf("the peer %d uses %d bytes, and %d of %d left", peer, g.Memory.Used[peer], out[peer], in)
		}
	}
	checkBytes(t, g, g.Memory.Used...)
	if waits := totalUsed(countsByHand(g.Lanes)); waits != len(d.joined)-len(d.gone) || totalUsed(g.Memory.Used) > g.Memory.Limit {
		t.Fatalf("%d packets wait, of %d that came and %d that left", waits, len(d.joined), len(d.gone))
	}
}

// checkAllLeft expects that each packet that came has left once, and that there were some.
func (d ledger) checkAllLeft(t *testing.T) {
	t.Helper()
	gone := slices.Clone(d.gone)
	slices.SortFunc(gone, func(a impl.Packet, b impl.Packet) int { return a.Id - b.Id })
	if !slices.Equal(gone, d.joined) || len(d.joined) < 20 {
		t.Errorf("%v came, and %v left", d.joined, gone)
	}
}

// guardStep makes one call, as kind says, and notes what came and left.
func guardStep(t *testing.T, g impl.Guard, d *ledger, kind int, n int, id int) impl.Guard {
	t.Helper()
	now := g.Time + n%4
	var list, gone []impl.Packet
	var decisions []int
	switch kind {
	case 0:
		g, gone = checkServed(t, g, now, n/4%6)
	case 1:
		g, gone = checkKicked(t, g, n/4%8, now)
	default:
		for i := range n / 4 % 4 {
			k := n/16 + 37*i
			list = append(list, impl.Packet{Peer: k % 8, Lane: k / 8 % 4, Size: 1 + k/32%100, Id: id + i})
		}
		g, decisions = checkAllOffered(t, g, list, now)
	}
	for i, p := range list {
		if decisions[i] == 1 {
			d.joined = append(d.joined, p)
		}
	}
	d.gone = append(d.gone, gone...)
	return g
}

// TestWhatIsLetInIsPaidFor follows rows of calls, and expects that each packet that is let in leaves once.
func TestWhatIsLetInIsPaidFor(t *testing.T) {
	for seed := range 40 {
		s := impl.Settings{Rate: 5 + seed%40, Burst: 100 + 9*seed, PeerRate: 2 + seed%9, PeerBurst: 40 + 5*seed, Memory: 150 + 100*(seed%5), Each: 90 + seed, Quantum: 1 + 50*(seed%4), Weights: []int{1 + seed%9, 1, 1 + seed%2, 3}}
		g, ok := impl.NewGuard(s, seed)
		if !ok {
			t.Fatal("NewGuard fails")
		}
		d := ledger{start: g}
		n := seed
		for step := range 250 {
			n = (n*1103515245 + 12345) % 2147483648
			kind := n / 65536 % (4 + seed%3*8)
			if kind == 1 && n/256%4 > 0 {
				kind = 2
			}
			g = guardStep(t, g, &d, kind, n/256, 4*step)
			d.checkPaid(t, g)
			d.checkWaiting(t, g)
		}
		g, gone := checkServed(t, g, g.Time, mostInt)
		d.gone = append(d.gone, gone...)
		d.checkPaid(t, g)
		d.checkWaiting(t, g)
		d.checkAllLeft(t)
	}
}

// TestGuardsKeepNothing calls all functions twice, with others in between.
func TestGuardsKeepNothing(t *testing.T) {
	text := func(g impl.Guard) string {
		p := impl.Packet{Peer: 1, Lane: 2, Size: 3}
		return fmt.Sprintln(impl.Offer(g, p, g.Time)) + fmt.Sprintln(impl.OfferAll(g, []impl.Packet{p, p}, g.Time)) + fmt.Sprintln(impl.Serve(g, g.Time, 2)) +
			fmt.Sprintln(impl.KickPeer(g, 1, g.Time)) + fmt.Sprintln(impl.BytesOf(g)) + fmt.Sprintln(impl.GuardValid(g))
	}
	list := append(mixedGuards(), guardsWithWrongScores()...)
	var before []string
	for _, g := range list {
		before = append(before, text(g))
	}
	for i, g := range slices.Backward(list) {
		if second := text(g); second != before[i] {
			t.Errorf("the functions of %v return %q, and then %q", g, before[i], second)
		}
	}
}
