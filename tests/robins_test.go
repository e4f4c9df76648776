package tests

import (
	"slices"
	"testing"

	"loop.example/trafficguard/impl"
)

// flowMade returns a flow with packets of these sizes and different Ids.
func flowMade(peer int, deficit int, sizes ...int) impl.Flow {
	f := impl.Flow{Peer: peer, Deficit: deficit}
	for i, size := range sizes {
		f.Waits = append(f.Waits, impl.Packet{Peer: peer, Lane: i % 4, Size: size, Id: 100*peer + i})
	}
	return f
}

// flowOfCount returns a flow with count packets of one size.
func flowOfCount(peer int, deficit int, count int, size int) impl.Flow {
	return flowMade(peer, deficit, slices.Repeat([]int{size}, count)...)
}

func robinMade(quantum int, flows ...impl.Flow) impl.Robin {
	return impl.Robin{Quantum: quantum, Flows: flows}
}

// flowsOfAll returns a flow for each peer, with count packets of one size.
func flowsOfAll(deficit int, count int, size int) []impl.Flow {
	var flows []impl.Flow
	for peer := range 8 {
		flows = append(flows, flowOfCount(peer, deficit, count, size))
	}
	return flows
}

// smallRobins returns all robins of two peers with a small quantum, small deficits and few small packets.
func smallRobins() []impl.Robin {
	var list []impl.Robin
	sizes := [][]int{{1}, {2}, {3}, {1, 1}, {1, 2}, {1, 3}, {2, 1}, {2, 2}, {3, 1}, {3, 3}}
	for quantum := 1; quantum <= 3; quantum++ {
		for deficit := range 4 {
			for _, first := range sizes {
				list = append(list, robinMade(quantum, flowMade(6, deficit, first...)))
				for other := range 4 {
					for _, second := range sizes {
						list = append(list, robinMade(quantum, flowMade(6, deficit, first...), flowMade(1, other, second...)))
					}
				}
			}
		}
	}
	return list
}

// mixedRobin returns a robin with up to 8 flows, of peers in any order, with deficits and sizes from a row of numbers.
func mixedRobin(seed int) impl.Robin {
	row := numberRow(seed, 200, 10000)
	r := robinMade([]int{1, 2, 9, 33, 50, 99, 100, 101, 250, 500}[seed%10])
	for i := range 1 + seed%8 {
		f := flowMade((3*i+seed)%8, row[i]%(r.Quantum+100), 1+row[8+i]%100)
		for j := range row[16+i] % 12 {
			f.Waits = append(f.Waits, impl.Packet{Peer: f.Peer, Lane: j % 4, Size: 1 + row[24+12*i+j]%100, Id: 5000 + 100*i + j})
		}
		r.Flows = append(r.Flows, f)
	}
	return r
}

func mixedRobins() []impl.Robin {
	var list []impl.Robin
	for seed := range 400 {
		list = append(list, mixedRobin(seed))
	}
	return list
}

// limitRobins returns valid robins with fields or numbers of flows or packets at their limits.
func limitRobins() []impl.Robin {
	list := []impl.Robin{robinMade(7, flowsOfAll(0, 1, 1)...), robinMade(7, flowsOfAll(106, 3, 100)...)}
	for _, quantum := range []int{1, 2, 99, 100, 101, 499, 500} {
		list = append(list, robinMade(quantum), impl.Robin{Quantum: quantum, Flows: []impl.Flow{}})
		for _, deficit := range []int{0, 1, quantum, 99, 100, quantum + 98, quantum + 99} {
			deficit = min(deficit, quantum+99)
			list = append(list, robinMade(quantum, flowMade(0, deficit, 1)), robinMade(quantum, flowMade(7, deficit, 100)))
			list = append(list, robinMade(quantum, flowMade(7, deficit, 100, 1), flowMade(0, quantum+99-deficit, 1, 100)))
		}
		list = append(list, robinMade(quantum, flowOfCount(3, 0, 64, 100)), robinMade(quantum, flowOfCount(4, quantum, 63, 1), flowOfCount(3, 0, 64, 2)))
		list = append(list, robinMade(quantum, flowsOfAll(quantum+99, 64, 100)...), robinMade(quantum, flowsOfAll(0, 64, 99)...))
	}
	return list
}

func validRobins() []impl.Robin {
	return slices.Concat(smallRobins(), mixedRobins(), limitRobins())
}

// invalidRobins returns robins of which one field is wrong, at each place.
func invalidRobins() []impl.Robin {
	list := []impl.Robin{{}, {Flows: []impl.Flow{flowMade(1, 0, 50)}}, robinMade(50, impl.Flow{})}
	for _, n := range []int{-1, 0, 501, 1000, leastInt, mostInt} {
		list = append(list, robinMade(n), robinMade(n, flowMade(1, 0, 50)), robinMade(n, flowMade(1, n, 50)))
	}
	for place := range 8 {
		for _, f := range invalidFlows(place) {
			flows := flowsOfAll(0, 2, 50)
			flows[place] = f
			list = append(list, robinMade(50, flows...), robinMade(50, f), robinMade(50, flows[:place+1]...))
		}
		for other := range place {
			flows := flowsOfAll(0, 2, 50)
			flows[place] = flows[other]
			list = append(list, robinMade(50, flows...), robinMade(50, flows[other], flows[place]))
		}
		list = append(list, robinMade(50, append(flowsOfAll(0, 2, 50), flowMade(place, 1, 50))...))
	}
	for _, deficit := range []int{101, 102, 500, 599} {
		list = append(list, robinMade(1, flowMade(2, deficit, 100)))
	}
	list = append(list, robinMade(500, flowMade(2, 600, 100)), robinMade(500, append(flowsOfAll(0, 1, 1), flowMade(8, 0, 1))...))
	return append(list, robinMade(50, slices.Repeat(flowsOfAll(0, 1, 1), 100)...))
}

// invalidFlows returns flows of a peer that are none of a robin with the quantum 50.
func invalidFlows(peer int) []impl.Flow {
	list := []impl.Flow{{}, {Peer: peer}, {Peer: peer, Deficit: 10}, {Peer: peer, Waits: []impl.Packet{}}}
	for _, n := range []int{-1, 150, 151, 1000, leastInt, mostInt} {
		list = append(list, flowMade(peer, n, 50, 50))
	}
	for _, n := range []int{-1, 8, 9, leastInt, mostInt} {
		list = append(list, flowMade(n, 0, 50), impl.Flow{Peer: n, Waits: flowMade(peer, 0, 50).Waits})
	}
	list = append(list, flowOfCount(peer, 0, 65, 1), flowOfCount(peer, 0, 1000, 1))
	for place := range 3 {
		for _, p := range invalidPackets() {
			f := flowMade(peer, 0, 50, 50, 50)
			// Those that are wrong in another field have the peer 2 in the list.
			p.Peer += peer - 2
			f.Waits[place] = p
			if !impl.PacketValid(p) || p.Peer != peer {
				list = append(list, f)
			}
		}
		f := flowMade(peer, 0, 50, 50, 50)
		f.Waits[place].Peer = (peer + 1) % 8
		list = append(list, f)
	}
	f := flowMade(peer, 0, 50, 50, 50)
	f.Peer = (peer + 1) % 8
	return append(list, f)
}

// sameRobin compares by hand, so that it does not depend on the program.
func sameRobin(a impl.Robin, b impl.Robin) bool {
	if a.Quantum != b.Quantum || len(a.Flows) != len(b.Flows) {
		return false
	}
	for i, f := range a.Flows {
		g := b.Flows[i]
		if f.Peer != g.Peer || f.Deficit != g.Deficit || !slices.Equal(f.Waits, g.Waits) {
			return false
		}
	}
	return true
}

func isZeroRobin(r impl.Robin) bool {
	return sameRobin(r, impl.Robin{})
}

// copiedRobin returns a robin with memory of its own.
func copiedRobin(r impl.Robin) impl.Robin {
	r.Flows = slices.Clone(r.Flows)
	for i := range r.Flows {
		r.Flows[i].Waits = slices.Clone(r.Flows[i].Waits)
	}
	return r
}

// turnsByHand returns how many turns a flow needs until it may send its first packet.
func turnsByHand(f impl.Flow, quantum int) int {
	short := max(f.Waits[0].Size-f.Deficit, 0)
	return (short + quantum - 1) / quantum
}

// nextByHand makes all turns at once: the flow that needs the fewest rounds sends, the first one of several.
func nextByHand(r impl.Robin) (impl.Robin, impl.Packet) {
	best, rounds := 0, mostInt
	for i, f := range r.Flows {
		// A flow that needs no turn sends in the first round as well.
		if n := max(turnsByHand(f, r.Quantum), 1); n < rounds {
			best, rounds = i, n
		}
	}
	next := impl.Robin{Quantum: r.Quantum}
	for i, f := range r.Flows[best:] {
		if i == 0 {
			f.Deficit += turnsByHand(f, r.Quantum)*r.Quantum - f.Waits[0].Size
			f.Waits = f.Waits[1:]
		} else {
			f.Deficit += (rounds - 1) * r.Quantum
		}
		next.Flows = append(next.Flows, f)
	}
	for _, f := range r.Flows[:best] {
		f.Deficit += rounds * r.Quantum
		next.Flows = append(next.Flows, f)
	}
	first, others := next.Flows[0], next.Flows[1:]
	if len(first.Waits) == 0 {
		next.Flows = others
	} else if first.Deficit < first.Waits[0].Size {
		next.Flows = append(slices.Clone(others), first)
	}
	return next, r.Flows[best].Waits[0]
}

// takenByHand takes packets by hand, as long as they fit.
func takenByHand(r impl.Robin, bytes int) (impl.Robin, []impl.Packet) {
	var taken []impl.Packet
	for len(r.Flows) > 0 {
		next, p := nextByHand(r)
		if totalOf(taken)+p.Size > bytes {
			break
		}
		r, taken = next, append(taken, p)
	}
	return r, taken
}

// waitingByHand returns the packets of a peer that wait, and the robin without them.
func waitingByHand(r impl.Robin, peer int) (impl.Robin, []impl.Packet) {
	rest := impl.Robin{Quantum: r.Quantum}
	var waits []impl.Packet
	for _, f := range r.Flows {
		if f.Peer == peer {
			waits = f.Waits
		} else {
			rest.Flows = append(rest.Flows, f)
		}
	}
	return rest, waits
}

// joinedByHand returns a robin with a packet more.
func joinedByHand(r impl.Robin, p impl.Packet) impl.Robin {
	r = copiedRobin(r)
	for i, f := range r.Flows {
		if f.Peer == p.Peer {
			r.Flows[i].Waits = append(f.Waits, p)
			return r
		}
	}
	r.Flows = append(r.Flows, impl.Flow{Peer: p.Peer, Waits: []impl.Packet{p}})
	return r
}

func checkNotJoined(t *testing.T, r impl.Robin, p impl.Packet) {
	t.Helper()
	if got, ok := impl.JoinRobin(r, p); ok || !isZeroRobin(got) {
		t.Errorf("JoinRobin(%v, %v) = %v, %v", r, p, got, ok)
	}
}

func checkNoNext(t *testing.T, r impl.Robin) {
	t.Helper()
	if got, p, ok := impl.NextPacket(r); ok || p != (impl.Packet{}) || !isZeroRobin(got) {
		t.Errorf("NextPacket(%v) = %v, %v, %v", r, got, p, ok)
	}
}

func checkNoBytesTaken(t *testing.T, r impl.Robin, bytes int) {
	t.Helper()
	if got, taken, ok := impl.TakeBytes(r, bytes); ok || len(taken) != 0 || !isZeroRobin(got) {
		t.Errorf("TakeBytes(%v, %d) = %v, %v, %v", r, bytes, got, taken, ok)
	}
}

// checkNoFlow expects that every function of a robin and a peer refuses both.
func checkNoFlow(t *testing.T, r impl.Robin, peer int) {
	t.Helper()
	if waits, ok := impl.WaitingOf(r, peer); ok || len(waits) != 0 {
		t.Errorf("WaitingOf(%v, %d) = %v, %v", r, peer, waits, ok)
	}
	if got, waits, ok := impl.LeaveRobin(r, peer); ok || len(waits) != 0 || !isZeroRobin(got) {
		t.Errorf("LeaveRobin(%v, %d) = %v, %v, %v", r, peer, got, waits, ok)
	}
}

func checkJoined(t *testing.T, r impl.Robin, p impl.Packet, want impl.Robin) {
	t.Helper()
	if got, ok := impl.JoinRobin(r, p); !ok || !sameRobin(got, want) || !impl.RobinValid(got) {
		t.Errorf("JoinRobin(%v, %v) = %v, %v, want %v", r, p, got, ok, want)
	}
}

// checkNext returns the robin that is left.
func checkNext(t *testing.T, r impl.Robin, want impl.Robin, packet impl.Packet) impl.Robin {
	t.Helper()
	got, p, ok := impl.NextPacket(r)
	if !ok || p != packet || !sameRobin(got, want) || !impl.RobinValid(got) {
		t.Fatalf("NextPacket(%v) = %v, %v, %v, want %v, %v", r, got, p, ok, want, packet)
	}
	return got
}

func checkTakenBytes(t *testing.T, r impl.Robin, bytes int, want impl.Robin, list []impl.Packet) {
	t.Helper()
	got, taken, ok := impl.TakeBytes(r, bytes)
	if !ok || !sameRobin(got, want) || !slices.Equal(taken, list) {
		t.Errorf("TakeBytes(%v, %d) = %v, %v, %v, want %v, %v", r, bytes, got, taken, ok, want, list)
	}
}

// checkOrder expects that all packets of a robin are taken in the order of these texts.
func checkOrder(t *testing.T, r impl.Robin, want string) {
	t.Helper()
	if list, ok := impl.TakeAll(r); !ok || textsOf(list) != want {
		t.Errorf("TakeAll(%v) = %q, %v, want %q", r, textsOf(list), ok, want)
	}
}

func TestQuantumLimitConstant(t *testing.T) {
	if impl.MaxQuantum != 500 {
		t.Errorf("MaxQuantum = %d", impl.MaxQuantum)
	}
}

func TestRobinsWithinTheLimitsAreValid(t *testing.T) {
	for _, r := range validRobins() {
		if !impl.RobinValid(r) {
			t.Errorf("RobinValid(%v) = false", r)
		}
	}
}

func TestInvalidRobinsAreRefused(t *testing.T) {
	for _, r := range invalidRobins() {
		if impl.RobinValid(r) {
			t.Errorf("RobinValid(%v) = true", r)
		}
		checkNoNext(t, r)
		if list, ok := impl.TakeAll(r); ok || len(list) != 0 {
			t.Errorf("TakeAll(%v) = %v, %v", r, list, ok)
		}
		for _, p := range []impl.Packet{{Size: 1}, {Peer: 7, Lane: 3, Size: 100, Id: 9999}, {}} {
			checkNotJoined(t, r, p)
		}
		for _, bytes := range []int{0, 1, 50, 100000, mostInt, -1, leastInt} {
			checkNoBytesTaken(t, r, bytes)
		}
		for _, peer := range append(refusedPeers(), 0, 1, 2, 3, 4, 5, 6, 7) {
			checkNoFlow(t, r, peer)
		}
	}
}

// otherRobins returns robins that differ from one with two flows of two packets in one thing each.
func otherRobins(r impl.Robin) []impl.Robin {
	f, g := r.Flows[0], r.Flows[1]
	list := []impl.Robin{{}, robinMade(r.Quantum), {Flows: r.Flows}, robinMade(r.Quantum, f), robinMade(r.Quantum, g)}
	list = append(list, robinMade(r.Quantum, g, f), robinMade(r.Quantum, f, f), robinMade(r.Quantum, f, g, g), robinMade(r.Quantum, f, g, impl.Flow{}))
	list = append(list, robinMade(-r.Quantum, f, g), robinMade(r.Quantum+1, f, g), robinMade(r.Quantum-1, f, g))
	for place := range r.Flows {
		change := func(how func(f *impl.Flow)) {
			b := copiedRobin(r)
			how(&b.Flows[place])
			list = append(list, b)
		}
		change(func(f *impl.Flow) { f.Peer++ })
		change(func(f *impl.Flow) { f.Deficit++ })
		change(func(f *impl.Flow) { f.Waits = nil })
		change(func(f *impl.Flow) { f.Waits = f.Waits[:1] })
		change(func(f *impl.Flow) { f.Waits = f.Waits[1:] })
		change(func(f *impl.Flow) { f.Waits = append(f.Waits, f.Waits[1]) })
		change(func(f *impl.Flow) { slices.Reverse(f.Waits) })
		for i := range f.Waits {
			change(func(f *impl.Flow) { f.Waits[i].Peer++ })
			change(func(f *impl.Flow) { f.Waits[i].Lane++ })
			change(func(f *impl.Flow) { f.Waits[i].Size++ })
			change(func(f *impl.Flow) { f.Waits[i].Id++ })
		}
	}
	return list
}

func TestRobinSameComparesAllFields(t *testing.T) {
	a := robinMade(50, flowMade(2, 10, 60, 30), flowMade(1, 20, 20, 90))
	if !impl.RobinSame(a, a) || !impl.RobinSame(a, copiedRobin(a)) {
		t.Error("equal robins are not the same")
	}
	for _, b := range otherRobins(a) {
		if impl.RobinSame(a, b) || impl.RobinSame(b, a) {
			t.Errorf("%v and %v are the same", a, b)
		}
	}
}

func TestRobinSameAcceptsInvalidRobins(t *testing.T) {
	all := invalidRobins()
	for i, a := range all {
		for j, b := range all {
			if got := impl.RobinSame(a, b); got != sameRobin(a, b) {
				t.Errorf("RobinSame of the robins %d and %d = %v", i, j, got)
			}
		}
	}
	empty := impl.Robin{Flows: []impl.Flow{}}
	if !impl.RobinSame(impl.Robin{}, empty) || !impl.RobinSame(robinMade(5, impl.Flow{}), robinMade(5, impl.Flow{Waits: []impl.Packet{}})) {
		t.Error("nil slices and empty slices are not the same")
	}
}

func TestPacketsJoinBehindTheOthers(t *testing.T) {
	f, g := flowMade(2, 10, 60, 30), flowMade(1, 20, 20)
	r := robinMade(50, f, g)
	p := impl.Packet{Peer: 2, Lane: 3, Size: 5, Id: 77}
	checkJoined(t, r, p, robinMade(50, impl.Flow{Peer: 2, Deficit: 10, Waits: append(slices.Clone(f.Waits), p)}, g))
	p.Peer = 1
	checkJoined(t, r, p, robinMade(50, f, impl.Flow{Peer: 1, Deficit: 20, Waits: append(slices.Clone(g.Waits), p)}))
	for _, peer := range []int{0, 3, 7} {
		p.Peer = peer
		checkJoined(t, r, p, robinMade(50, f, g, impl.Flow{Peer: peer, Waits: []impl.Packet{p}}))
		checkJoined(t, robinMade(1), p, robinMade(1, impl.Flow{Peer: peer, Waits: []impl.Packet{p}}))
	}
	for _, r := range append(smallRobins(), mixedRobins()...) {
		for _, p := range validPackets() {
			checkJoined(t, r, p, joinedByHand(r, p))
		}
	}
}

func TestNoMoreThan64PacketsInAFlow(t *testing.T) {
	for peer := range 8 {
		p := impl.Packet{Peer: peer, Size: 1, Id: 70}
		one := robinMade(50, flowOfCount(peer, 149, 63, 1))
		checkJoined(t, one, p, joinedByHand(one, p))
		checkNotJoined(t, robinMade(50, flowOfCount(peer, 0, 64, 1)), p)
		all := robinMade(50, flowsOfAll(0, 64, 100)...)
		checkNotJoined(t, all, p)
		all.Flows[peer].Waits = all.Flows[peer].Waits[:63]
		checkJoined(t, all, p, joinedByHand(all, p))
		// The packets of others are not counted.
		all.Flows = slices.Delete(all.Flows, peer, peer+1)
		checkJoined(t, all, p, joinedByHand(all, p))
	}
}

func TestInvalidPacketsDoNotJoin(t *testing.T) {
	for _, r := range append(limitRobins(), mixedRobins()[:20]...) {
		for _, p := range invalidPackets() {
			checkNotJoined(t, r, p)
		}
	}
}

func TestExampleOfRobins(t *testing.T) {
	r := robinMade(50, flowMade(0, 0, 60, 60), flowMade(1, 0, 20, 20, 20))
	a, b := r.Flows[0].Waits, r.Flows[1].Waits
	// The peer 0 sends nothing in its first turn, and one packet in its second turn.
	r = checkNext(t, r, robinMade(50, impl.Flow{Peer: 1, Deficit: 30, Waits: b[1:]}, impl.Flow{Deficit: 50, Waits: a}), b[0])
	r = checkNext(t, r, robinMade(50, impl.Flow{Deficit: 50, Waits: a}, impl.Flow{Peer: 1, Deficit: 10, Waits: b[2:]}), b[1])
	r = checkNext(t, r, robinMade(50, impl.Flow{Peer: 1, Deficit: 10, Waits: b[2:]}, impl.Flow{Deficit: 40, Waits: a[1:]}), a[0])
	r = checkNext(t, r, robinMade(50, impl.Flow{Deficit: 40, Waits: a[1:]}), b[2])
	r = checkNext(t, r, robinMade(50), a[1])
	checkNoNext(t, r)
}

func TestPacketGreaterThanTheQuantum(t *testing.T) {
	checkOrder(t, robinMade(50, flowMade(0, 0, 60), flowMade(1, 0, 50)), "1/0:50#100 0/0:60#0")
	checkOrder(t, robinMade(50, flowMade(0, 0, 100), flowMade(1, 0, 51)), "0/0:100#0 1/0:51#100")
	checkOrder(t, robinMade(50, flowMade(0, 0, 100), flowMade(1, 0, 50, 50)), "1/0:50#100 0/0:100#0 1/1:50#101")
	checkOrder(t, robinMade(1, flowMade(0, 0, 3), flowMade(1, 0, 2), flowMade(2, 0, 1, 1)), "2/0:1#200 1/0:2#100 2/1:1#201 0/0:3#0")
	// In 100 turns a flow has what it needs, and the other one as much as it sends nothing.
	r := robinMade(1, flowMade(3, 0, 100, 1), flowMade(5, 0, 100))
	left := checkNext(t, r, robinMade(1, impl.Flow{Peer: 5, Deficit: 99, Waits: r.Flows[1].Waits}, impl.Flow{Peer: 3, Waits: r.Flows[0].Waits[1:]}), r.Flows[0].Waits[0])
	checkNext(t, left, robinMade(1, impl.Flow{Peer: 3, Waits: r.Flows[0].Waits[1:]}), r.Flows[1].Waits[0])
}

func TestOneFlowAlone(t *testing.T) {
	for _, quantum := range []int{1, 7, 50, 99, 100, 101, 500} {
		for _, deficit := range []int{0, 1, 49, 50, 51, quantum, quantum + 99} {
			deficit = min(deficit, quantum+99)
			r := robinMade(quantum, flowMade(4, deficit, 50, 100, 1, 50))
			waits := r.Flows[0].Waits
			for i, p := range waits {
				// It has what it was given in as few turns as it needs.
				for deficit < p.Size {
					deficit += quantum
				}
				deficit -= p.Size
				want := robinMade(quantum, impl.Flow{Peer: 4, Deficit: deficit, Waits: waits[i+1:]})
				if i == len(waits)-1 {
					want.Flows = nil
				}
				r = checkNext(t, r, want, p)
			}
			checkNoNext(t, r)
		}
	}
}

func TestFlowThatHasJustEnough(t *testing.T) {
	other := flowMade(1, 0, 1, 1)
	// With just enough, it sends without a turn that begins, or in the turn in which it gets it.
	for deficit, want := range map[int]int{60: 0, 61: 1, 10: 0, 11: 1, 59: 49} {
		r := robinMade(50, flowMade(0, deficit, 60, 100), other)
		left := impl.Flow{Deficit: want, Waits: r.Flows[0].Waits[1:]}
		checkNext(t, r, robinMade(50, other, left), r.Flows[0].Waits[0])
	}
	// With one byte too few, the other one sends first.
	r := robinMade(50, flowMade(0, 9, 60, 100), other)
	checkNext(t, r, robinMade(50, impl.Flow{Peer: 1, Deficit: 49, Waits: other.Waits[1:]}, impl.Flow{Deficit: 59, Waits: r.Flows[0].Waits}), other.Waits[0])
	// With just enough for the next packet, it stays in front of the others.
	r = robinMade(50, flowMade(0, 70, 60, 10, 1), other)
	r = checkNext(t, r, robinMade(50, impl.Flow{Deficit: 10, Waits: r.Flows[0].Waits[1:]}, other), r.Flows[0].Waits[0])
	checkNext(t, r, robinMade(50, other, impl.Flow{Waits: r.Flows[0].Waits[1:]}), r.Flows[0].Waits[0])
	r = robinMade(50, flowMade(0, 69, 60, 10, 1), other)
	checkNext(t, r, robinMade(50, other, impl.Flow{Deficit: 9, Waits: r.Flows[0].Waits[1:]}), r.Flows[0].Waits[0])
}

func TestFlowThatEndsIsTakenOut(t *testing.T) {
	other := flowMade(1, 12, 70)
	// What was left to it is lost: a packet that comes later finds a new flow.
	r := robinMade(50, flowMade(0, 149, 60), other)
	left := checkNext(t, r, robinMade(50, other), r.Flows[0].Waits[0])
	p := impl.Packet{Size: 40, Id: 9}
	checkJoined(t, left, p, robinMade(50, other, impl.Flow{Waits: []impl.Packet{p}}))
	// Another flow than the first one may end.
	r = robinMade(50, flowMade(0, 0, 60), flowMade(1, 0, 30), flowMade(2, 5, 70))
	checkNext(t, r, robinMade(50, r.Flows[2], flowMade(0, 50, 60)), r.Flows[1].Waits[0])
}

func TestRobinsWithoutFlows(t *testing.T) {
	for _, quantum := range []int{1, 2, 50, 499, 500} {
		for _, r := range []impl.Robin{{Quantum: quantum}, {Quantum: quantum, Flows: []impl.Flow{}}} {
			checkNoNext(t, r)
			checkOrder(t, r, "")
			for _, bytes := range []int{0, 1, 100, mostInt} {
				checkTakenBytes(t, r, bytes, r, nil)
			}
			checkNoBytesTaken(t, r, -1)
			for peer := range 8 {
				checkLeft(t, r, peer, r, nil)
			}
		}
	}
}

// checkLeft expects these packets of a peer, and this robin without them.
func checkLeft(t *testing.T, r impl.Robin, peer int, want impl.Robin, list []impl.Packet) {
	t.Helper()
	if waits, ok := impl.WaitingOf(r, peer); !ok || !slices.Equal(waits, list) {
		t.Errorf("WaitingOf(%v, %d) = %v, %v, want %v", r, peer, waits, ok, list)
	}
	got, waits, ok := impl.LeaveRobin(r, peer)
	if !ok || !sameRobin(got, want) || !slices.Equal(waits, list) || !impl.RobinValid(got) {
		t.Errorf("LeaveRobin(%v, %d) = %v, %v, %v, want %v, %v", r, peer, got, waits, ok, want, list)
	}
}

// TestPacketsLeaveInTheirTurns takes all packets one by one, and compares each robin on the way.
func TestPacketsLeaveInTheirTurns(t *testing.T) {
	for _, r := range validRobins() {
		_, all := takenByHand(r, mostInt)
		if list, ok := impl.TakeAll(r); !ok || !slices.Equal(list, all) {
			t.Errorf("TakeAll(%v) = %v, %v, want %v", r, list, ok, all)
		}
		if len(all) > 200 {
			continue
		}
		for len(r.Flows) > 0 {
			want, p := nextByHand(r)
			r = checkNext(t, r, want, p)
		}
		checkNoNext(t, r)
	}
}

func TestTakenBytes(t *testing.T) {
	r := robinMade(50, flowMade(0, 0, 60, 60), flowMade(1, 0, 20, 20, 20))
	a, b := r.Flows[0].Waits, r.Flows[1].Waits
	none := robinMade(50)
	second := robinMade(50, impl.Flow{Peer: 1, Deficit: 30, Waits: b[1:]}, impl.Flow{Deficit: 50, Waits: a})
	// The turn that the peer 0 would begin is not in what is left.
	third := robinMade(50, impl.Flow{Deficit: 50, Waits: a}, impl.Flow{Peer: 1, Deficit: 10, Waits: b[2:]})
	fourth := robinMade(50, impl.Flow{Peer: 1, Deficit: 10, Waits: b[2:]}, impl.Flow{Deficit: 40, Waits: a[1:]})
	fifth := robinMade(50, impl.Flow{Deficit: 40, Waits: a[1:]})
	list := []impl.Packet{b[0], b[1], a[0], b[2], a[1]}
	for bytes := range 200 {
		switch {
		case bytes < 20:
			checkTakenBytes(t, r, bytes, r, nil)
		case bytes < 40:
			checkTakenBytes(t, r, bytes, second, list[:1])
		case bytes < 100:
			checkTakenBytes(t, r, bytes, third, list[:2])
		case bytes < 120:
			checkTakenBytes(t, r, bytes, fourth, list[:3])
		case bytes < 180:
			checkTakenBytes(t, r, bytes, fifth, list[:4])
		default:
			checkTakenBytes(t, r, bytes, none, list)
		}
	}
	checkTakenBytes(t, r, mostInt, none, list)
}

// TestBytesOfAllRobins takes just what some packets have together, and a byte less or more.
func TestBytesOfAllRobins(t *testing.T) {
	for _, r := range append(validRobins(), robinMade(50, flowOfCount(2, 0, 64, 100))) {
		_, all := takenByHand(r, mostInt)
		for _, count := range []int{0, 1, 2, len(all) / 2, len(all) - 1, len(all)} {
			if count < 0 || count > len(all) {
				continue
			}
			bytes := totalOf(all[:count])
			for _, n := range []int{bytes - 1, bytes, bytes + 1} {
				if n < 0 {
					checkNoBytesTaken(t, r, n)
					continue
				}
				want, list := takenByHand(r, n)
				checkTakenBytes(t, r, n, want, list)
			}
		}
	}
}

func TestSmallerPacketsBehindOneThatDoesNotFitStay(t *testing.T) {
	r := robinMade(100, flowMade(0, 0, 60, 1), flowMade(1, 0, 1))
	checkTakenBytes(t, r, 59, r, nil)
	checkTakenBytes(t, r, 60, robinMade(100, impl.Flow{Deficit: 40, Waits: r.Flows[0].Waits[1:]}, r.Flows[1]), r.Flows[0].Waits[:1])
}

func TestNegativeBytesAreNotTaken(t *testing.T) {
	for _, r := range append(limitRobins(), mixedRobins()[:20]...) {
		for _, bytes := range []int{-1, -2, -100, leastInt} {
			checkNoBytesTaken(t, r, bytes)
		}
	}
}

func TestFlowsThatLeave(t *testing.T) {
	for _, r := range append(mixedRobins(), limitRobins()...) {
		for peer := range 8 {
			rest, waits := waitingByHand(r, peer)
			checkLeft(t, r, peer, rest, waits)
		}
		for _, peer := range refusedPeers() {
			checkNoFlow(t, r, peer)
		}
	}
	f, g, h := flowMade(2, 10, 60, 30), flowMade(0, 20, 20, 90), flowMade(7, 149, 1)
	r := robinMade(50, f, g, h)
	checkLeft(t, r, 2, robinMade(50, g, h), f.Waits)
	checkLeft(t, r, 0, robinMade(50, f, h), g.Waits)
	checkLeft(t, r, 7, robinMade(50, f, g), h.Waits)
	checkLeft(t, r, 1, r, nil)
	checkLeft(t, robinMade(50, h), 7, robinMade(50), h.Waits)
}

// robinResult is what a call returns.
type robinResult struct {
	robin impl.Robin
	list  []impl.Packet
}

// robinCalls returns, by name, calls whose results are robins or lists of packets.
func robinCalls() map[string]func(r impl.Robin) robinResult {
	join := func(peer int) func(r impl.Robin) robinResult {
		return func(r impl.Robin) robinResult {
			got, _ := impl.JoinRobin(r, impl.Packet{Peer: peer, Size: 5, Id: 5})
			return robinResult{robin: got}
		}
	}
	take := func(bytes int) func(r impl.Robin) robinResult {
		return func(r impl.Robin) robinResult {
			got, list, _ := impl.TakeBytes(r, bytes)
			return robinResult{got, list}
		}
	}
	leave := func(peer int) func(r impl.Robin) robinResult {
		return func(r impl.Robin) robinResult {
			got, list, _ := impl.LeaveRobin(r, peer)
			return robinResult{got, list}
		}
	}
	next := func(r impl.Robin) robinResult {
		got, _, _ := impl.NextPacket(r)
		return robinResult{robin: got}
	}
	all := func(r impl.Robin) robinResult {
		list, _ := impl.TakeAll(r)
		return robinResult{list: list}
	}
	waiting := func(r impl.Robin) robinResult {
		list, _ := impl.WaitingOf(r, 1)
		return robinResult{list: list}
	}
	return map[string]func(r impl.Robin) robinResult{
		"JoinRobin of a flow": join(1), "JoinRobin of another flow": join(3), "JoinRobin of a new flow": join(6),
		"NextPacket": next, "TakeAll": all, "WaitingOf": waiting,
		"TakeBytes of none": take(0), "TakeBytes of some": take(60), "TakeBytes of many": take(300), "TakeBytes of all": take(mostInt),
		"LeaveRobin of the first": leave(1), "LeaveRobin of the second": leave(3), "LeaveRobin of none": leave(6),
	}
}

// memoryRobins returns robins whose lists have spare capacity, in which a careless append would write.
func memoryRobins() []impl.Robin {
	var list []impl.Robin
	for seed := range 60 {
		row := numberRow(seed, 60, 40)
		r := robinMade([]int{10, 40, 100}[seed%3])
		for i, peer := range []int{1, 3, 0, 7}[:seed%5] {
			f := flowMade(peer, row[i], row[10*i+10:10*i+11+row[i+4]%9]...)
			for place := range f.Waits {
				f.Waits[place].Size++
			}
			f.Waits = append(f.Waits, repeated(seed%4)...)[:len(f.Waits)]
			r.Flows = append(r.Flows, f)
		}
		r.Flows = append(r.Flows, flowMade(5, 0, 30, 30), flowMade(2, 9, 30))[:len(r.Flows)]
		list = append(list, r)
	}
	return list
}

// wholeRobin returns a robin as it is, also beyond the lengths of its lists, in memory of its own.
func wholeRobin(r impl.Robin) impl.Robin {
	r.Flows = slices.Clone(r.Flows[:cap(r.Flows)])
	for i, f := range r.Flows {
		r.Flows[i].Waits = slices.Clone(f.Waits[:cap(f.Waits)])
	}
	return r
}

// piecesOf returns the lists of packets of a result, also of flows beyond the length.
func piecesOf(got robinResult) [][]impl.Packet {
	pieces := [][]impl.Packet{got.list}
	for _, f := range got.robin.Flows[:cap(got.robin.Flows)] {
		pieces = append(pieces, f.Waits)
	}
	return pieces
}

// overwriteResult changes all memory of a result.
func overwriteResult(got robinResult) {
	for _, piece := range piecesOf(got) {
		overwrite(piece)
	}
	whole := got.robin.Flows[:cap(got.robin.Flows)]
	for i := range whole {
		whole[i] = impl.Flow{Peer: 77, Deficit: 77, Waits: []impl.Packet{written}}
	}
}

func TestRobinsStayAsTheyAre(t *testing.T) {
	for name, call := range robinCalls() {
		for i, r := range memoryRobins() {
			before := wholeRobin(r)
			if !impl.RobinValid(r) || !impl.RobinSame(r, r) {
				t.Fatalf("the robin %d is not valid", i)
			}
			got := call(r)
			if !sameRobin(wholeRobin(r), before) {
				t.Errorf("%s changes the robin %d to %v", name, i, wholeRobin(r))
			}
			overwriteResult(got)
			if !sameRobin(wholeRobin(r), before) {
				t.Errorf("%s shares memory with the robin %d", name, i)
			}
		}
	}
}

func TestResultsOfRobinsShareNoMemory(t *testing.T) {
	for name, call := range robinCalls() {
		for i, r := range memoryRobins() {
			want, second := call(r), call(r)
			overwriteResult(call(r))
			if !sameRobin(second.robin, want.robin) || !slices.Equal(second.list, want.list) {
				t.Errorf("%s of the robin %d: two results share memory", name, i)
			}
			for place := range piecesOf(want) {
				first := piecesOf(call(r))
				overwrite(first[place])
				for other, piece := range piecesOf(want) {
					if other != place && !slices.Equal(first[other], piece) {
						t.Errorf("%s of the robin %d: the lists %d and %d share memory", name, i, place, other)
					}
				}
			}
		}
	}
}

// backlog joins count packets of each of 8 peers, one after the other, to a robin.
func backlog(t *testing.T, quantum int, seed int, count int) impl.Robin {
	t.Helper()
	r := impl.Robin{Quantum: quantum}
	sizes := numberRow(seed, 8*count, 100)
	for i, size := range sizes {
		// The peers with even numbers have small packets in some of the robins.
		if seed%2 == 1 && i%2 == 0 {
			size /= 20
		}
		got, ok := impl.JoinRobin(r, impl.Packet{Peer: i % 8, Lane: i % 4, Size: size + 1, Id: i})
		if !ok {
			t.Fatalf("the packet %d does not join", i)
		}
		r = got
	}
	return r
}

// TestNoPeerSendsMoreThanItsQuantumAndAPacket compares what peers have sent that had the same turns: one that still waits is behind by less than a quantum and a packet.
func TestNoPeerSendsMoreThanItsQuantumAndAPacket(t *testing.T) {
	for seed := range 40 {
		quantum := []int{1, 10, 50, 99, 100, 101, 300, 500}[seed%8]
		r := backlog(t, quantum, seed, 40)
		sent := make([]int, 8)
		for len(r.Flows) > 0 {
			next, p, ok := impl.NextPacket(r)
			if !ok {
				t.Fatalf("NextPacket(%v) fails", r)
			}
			sent[p.Peer] += p.Size
			for _, f := range next.Flows {
				if most := slices.Max(sent); most-sent[f.Peer] >= quantum+100 {
					t.Fatalf("quantum %d: the peer %d waits with %d bytes, and another one has sent %d", quantum, f.Peer, sent[f.Peer], most)
				}
			}
			r = next
		}
	}
}

// TestEachPeerGetsItsTurn counts the peers that send between two turns of one that waits, where each turn is enough for a packet.
func TestEachPeerGetsItsTurn(t *testing.T) {
	for seed := range 40 {
		quantum := []int{100, 101, 150, 500}[seed%4]
		r := backlog(t, quantum, seed, 30)
		list, ok := impl.TakeAll(r)
		if !ok || len(list) != 240 {
			t.Fatalf("TakeAll = %v, %v", list, ok)
		}
		for start := 0; start < len(list); {
			end := start
			for end < len(list) && list[end].Peer == list[start].Peer {
				end++
			}
			alone := len(impl.OfPeer(list[start:], list[start].Peer)) == len(list)-start
			if bytes := totalOf(list[start:end]); !alone && bytes >= quantum+100 {
				t.Errorf("quantum %d: the peer %d sends %d bytes in its turn", quantum, list[start].Peer, bytes)
			}
			start = end
		}
		checkTurnsOfAll(t, list)
	}
}

// checkTurnsOfAll expects that no peer has two turns while another one waits that has none.
func checkTurnsOfAll(t *testing.T, list []impl.Packet) {
	t.Helper()
	turns := make([]int, 8)
	for i, p := range list {
		if i == 0 || list[i-1].Peer != p.Peer {
			turns[p.Peer]++
		}
		for _, later := range list[i:] {
			if turns[p.Peer] > turns[later.Peer]+1 {
				t.Fatalf("the peer %d has %d turns, and the peer %d %d of them", p.Peer, turns[p.Peer], later.Peer, turns[later.Peer])
			}
		}
	}
}

// robinStep makes one call, and returns what it returns, what was expected, and the packets that went in and out.
func robinStep(r impl.Robin, kind int, n int) (got robinResult, want robinResult, in []impl.Packet, ok bool) {
	switch kind {
	case 0:
		if len(r.Flows) == 0 {
			return robinResult{robin: r}, robinResult{robin: r}, nil, true
		}
		next, p, ok := impl.NextPacket(r)
		rest, first := nextByHand(r)
		return robinResult{next, []impl.Packet{p}}, robinResult{rest, []impl.Packet{first}}, nil, ok
	case 1:
		next, taken, ok := impl.TakeBytes(r, n%300)
		rest, list := takenByHand(r, n%300)
		return robinResult{next, taken}, robinResult{rest, list}, nil, ok
	case 2:
		next, waits, ok := impl.LeaveRobin(r, n%8)
		rest, list := waitingByHand(r, n%8)
		return robinResult{next, waits}, robinResult{rest, list}, nil, ok
	default:
		p := impl.Packet{Peer: n / 7 % 8, Lane: n % 4, Size: n%100 + 1, Id: n % 10000}
		next, ok := impl.JoinRobin(r, p)
		if _, waits := waitingByHand(r, p.Peer); len(waits) == 64 {
			return robinResult{robin: r}, robinResult{robin: r}, nil, !ok
		}
		return robinResult{robin: next}, robinResult{robin: joinedByHand(r, p)}, []impl.Packet{p}, ok
	}
}

// TestRowsOfTurns follows rows of calls: each packet that joined waits or went out, once and behind those of its peer that joined before.
func TestRowsOfTurns(t *testing.T) {
	for seed := range 60 {
		r := impl.Robin{Quantum: []int{1, 20, 60, 100, 499, 500}[seed%6]}
		var joined, gone []impl.Packet
		n := seed
		for range 700 {
			n = (n*1103515245 + 12345) % 2147483648
			// Some rows have few calls that empty a robin, so that flows become full.
			kind := n / 65536 % (5 + seed%4*20)
			got, want, in, ok := robinStep(r, kind, n/256)
			if !ok || !sameRobin(got.robin, want.robin) || !slices.Equal(got.list, want.list) || !impl.RobinValid(got.robin) {
				t.Fatalf("row %d, call %d of %v: %v, %v, want %v", seed, kind, r, got, ok, want)
			}
			joined, gone, r = append(joined, in...), append(gone, got.list...), got.robin
		}
		for peer := range 8 {
			_, waits := waitingByHand(r, peer)
			if list := append(impl.OfPeer(gone, peer), waits...); !slices.Equal(list, impl.OfPeer(joined, peer)) {
				t.Errorf("row %d: of the packets %v of the peer %d, %v wait or went out", seed, impl.OfPeer(joined, peer), peer, list)
			}
		}
	}
}
