package tests

import (
	"slices"
	"testing"

	"loop.example/trafficguard/impl"
)

// totalOf adds by hand, so that it does not depend on the program.
func totalOf(list []impl.Packet) int {
	total := 0
	for _, p := range list {
		total += p.Size
	}
	return total
}

// madeOf returns packets of pairs of a peer and a size, whose Ids tell them apart.
func madeOf(pairs ...[2]int) []impl.Packet {
	var list []impl.Packet
	for i, pair := range pairs {
		list = append(list, impl.Packet{Peer: pair[0], Lane: i % 4, Size: pair[1], Id: i})
	}
	return list
}

// ofOneByte returns count packets of one byte.
func ofOneByte(count int) []impl.Packet {
	list := repeated(count)
	for i := range list {
		list[i].Size = 1
	}
	return list
}

// smallLists returns all lists of at most 4 packets of three peers and two sizes, so that ties are frequent.
func smallLists() [][]impl.Packet {
	kinds := [][2]int{{0, 1}, {0, 2}, {3, 1}, {3, 2}, {7, 1}, {7, 2}}
	rows := [][][2]int{nil}
	var lists [][]impl.Packet
	for range 5 {
		var longer [][][2]int
		for _, row := range rows {
			lists = append(lists, madeOf(row...))
			for _, kind := range kinds {
				longer = append(longer, append(slices.Clone(row), kind))
			}
		}
		rows = longer
	}
	return lists
}

// smallQueues returns queues of the small lists, with no room, with some and with much.
func smallQueues() []impl.Queue {
	var queues []impl.Queue
	for _, list := range smallLists() {
		for _, room := range []int{0, 1, 3} {
			if total := totalOf(list); total+room > 0 {
				queues = append(queues, impl.Queue{Limit: total + room, Packets: list})
			}
		}
		queues = append(queues, impl.Queue{Limit: 1000, Packets: list})
	}
	return queues
}

// limitQueues returns valid queues whose Limit, bytes or number of packets is at a limit.
func limitQueues() []impl.Queue {
	return []impl.Queue{
		{Limit: 1},
		{Limit: 1, Packets: []impl.Packet{}},
		{Limit: 1, Packets: madeOf([2]int{7, 1})},
		{Limit: 999, Packets: repeated(9)},
		{Limit: 1000},
		{Limit: 1000, Packets: repeated(10)},
		{Limit: 1000, Packets: append(repeated(9), madeOf([2]int{3, 99}, [2]int{0, 1})...)},
		{Limit: 64, Packets: ofOneByte(mostPackets)},
		{Limit: 65, Packets: ofOneByte(mostPackets)},
		{Limit: 1000, Packets: ofOneByte(mostPackets)},
		{Limit: 1000, Packets: ofOneByte(mostPackets - 1)},
	}
}

func invalidQueues() []impl.Queue {
	list := []impl.Queue{
		{Packets: madeOf([2]int{2, 30})},
		{Limit: 29, Packets: madeOf([2]int{2, 30})},
		{Limit: 99, Packets: repeated(1)},
		{Limit: 89, Packets: madeOf([2]int{1, 60}, [2]int{2, 30})},
		{Limit: 999, Packets: repeated(10)},
		{Limit: 1000, Packets: append(repeated(10), madeOf([2]int{0, 1})...)},
		{Limit: 1000, Packets: repeated(mostPackets)},
		{Limit: 63, Packets: ofOneByte(mostPackets)},
		{Limit: 65, Packets: ofOneByte(mostPackets + 1)},
		{Limit: 1000, Packets: ofOneByte(mostPackets + 1)},
		{Limit: 1000, Packets: ofOneByte(500)},
		// The sum of these sizes wraps around to a small number.
		{Limit: 1000, Packets: madeOf([2]int{1, mostInt}, [2]int{1, mostInt}, [2]int{1, 3})},
		{Limit: 1000, Packets: madeOf([2]int{1, leastInt}, [2]int{1, leastInt})},
	}
	for _, n := range []int{0, -1, 1001, leastInt, mostInt} {
		list = append(list, impl.Queue{Limit: n}, impl.Queue{Limit: n, Packets: madeOf([2]int{2, 1})})
	}
	for _, p := range invalidPackets() {
		for place := range 3 {
			list = append(list, impl.Queue{Limit: 1000, Packets: slices.Insert(repeated(2), place, p)})
		}
	}
	return list
}

// sameQueue compares by hand, so that it does not depend on the program.
func sameQueue(a impl.Queue, b impl.Queue) bool {
	return a.Limit == b.Limit && slices.Equal(a.Packets, b.Packets)
}

func isZeroQueue(q impl.Queue) bool {
	return sameQueue(q, impl.Queue{})
}

func checkNotPushed(t *testing.T, q impl.Queue, p impl.Packet) {
	t.Helper()
	if got, in, ok := impl.PushBack(q, p); ok || in || !isZeroQueue(got) {
		t.Errorf("PushBack(%v, %v) = %v, %v, %v", q, p, got, in, ok)
	}
}

func checkNotPopped(t *testing.T, q impl.Queue) {
	t.Helper()
	if got, p, ok := impl.PopFront(q); ok || p != (impl.Packet{}) || !isZeroQueue(got) {
		t.Errorf("PopFront(%v) = %v, %v, %v", q, got, p, ok)
	}
}

func checkNotShed(t *testing.T, q impl.Queue, size int) {
	t.Helper()
	if got, shed, ok := impl.ShedFor(q, size); ok || len(shed) != 0 || !isZeroQueue(got) {
		t.Errorf("ShedFor(%v, %d) = %v, %v, %v", q, size, got, shed, ok)
	}
}

func checkNotDropped(t *testing.T, q impl.Queue, peer int) {
	t.Helper()
	if got, dropped, ok := impl.DropPeer(q, peer); ok || len(dropped) != 0 || !isZeroQueue(got) {
		t.Errorf("DropPeer(%v, %d) = %v, %v, %v", q, peer, got, dropped, ok)
	}
}

func checkNoHeaviest(t *testing.T, q impl.Queue) {
	t.Helper()
	if peer, bytes, ok := impl.HeaviestPeer(q); ok || peer != 0 || bytes != 0 {
		t.Errorf("HeaviestPeer(%v) = %d, %d, %v", q, peer, bytes, ok)
	}
}

func checkPushed(t *testing.T, q impl.Queue, p impl.Packet, fits bool) {
	t.Helper()
	want := q
	if fits {
		want = impl.Queue{Limit: q.Limit, Packets: append(slices.Clone(q.Packets), p)}
	}
	if got, in, ok := impl.PushBack(q, p); !ok || in != fits || !sameQueue(got, want) {
		t.Errorf("PushBack(%v, %v) = %v, %v, %v, want %v, %v", q, p, got, in, ok, want, fits)
	}
}

func checkShed(t *testing.T, q impl.Queue, size int, rest []impl.Packet, shed []impl.Packet) {
	t.Helper()
	got, gone, ok := impl.ShedFor(q, size)
	if !ok || !sameQueue(got, impl.Queue{Limit: q.Limit, Packets: rest}) || !slices.Equal(gone, shed) {
		t.Errorf("ShedFor(%v, %d) = %v, %v, %v, want %v, %v", q, size, got, gone, ok, rest, shed)
	}
}

func checkHeaviest(t *testing.T, list []impl.Packet, peer int, bytes int) {
	t.Helper()
	q := impl.Queue{Limit: 1000, Packets: list}
	if p, n, ok := impl.HeaviestPeer(q); !ok || p != peer || n != bytes {
		t.Errorf("HeaviestPeer(%v) = %d, %d, %v, want %d, %d", q, p, n, ok, peer, bytes)
	}
}

// heaviestByHand looks at one peer after the other, each time at all packets.
func heaviestByHand(list []impl.Packet) (int, int) {
	best, most := 0, 0
	for peer := 7; peer >= 0; peer-- {
		bytes := 0
		for _, p := range list {
			if p.Peer == peer {
				bytes += p.Size
			}
		}
		if bytes >= most {
			best, most = peer, bytes
		}
	}
	return best, most
}

// shedByHand returns what stays and what is taken out of a list, for a limit and a size.
func shedByHand(list []impl.Packet, limit int, size int) ([]impl.Packet, []impl.Packet) {
	rest := slices.Clone(list)
	var shed []impl.Packet
	for totalOf(rest)+size > limit {
		peer, _ := heaviestByHand(rest)
		place := len(rest) - 1
		for rest[place].Peer != peer {
			place--
		}
		shed = append(shed, rest[place])
		rest = append(rest[:place:place], rest[place+1:]...)
	}
	return rest, shed
}

func TestQueueLimitConstant(t *testing.T) {
	if impl.MaxLimit != 1000 {
		t.Errorf("MaxLimit = %d", impl.MaxLimit)
	}
}

func TestQueuesWithinTheLimitsAreValid(t *testing.T) {
	for _, q := range append(smallQueues(), limitQueues()...) {
		if !impl.QueueValid(q) {
			t.Errorf("QueueValid(%v) = false", q)
		}
		if n, ok := impl.RoomOf(q); !ok || n != q.Limit-totalOf(q.Packets) {
			t.Errorf("RoomOf(%v) = %d, %v", q, n, ok)
		}
	}
}

func TestInvalidQueuesAreRefused(t *testing.T) {
	for _, q := range append(invalidQueues(), impl.Queue{}) {
		if impl.QueueValid(q) {
			t.Errorf("QueueValid(%v) = true", q)
		}
		if n, ok := impl.RoomOf(q); ok || n != 0 {
			t.Errorf("RoomOf(%v) = %d, %v", q, n, ok)
		}
		checkNotPopped(t, q)
		checkNoHeaviest(t, q)
		for _, p := range []impl.Packet{{Size: 1}, {Peer: 7, Lane: 3, Size: 100, Id: 9999}, {}} {
			checkNotPushed(t, q, p)
		}
		for _, size := range []int{0, 1, q.Limit, -1, leastInt, mostInt} {
			checkNotShed(t, q, size)
		}
		for _, peer := range []int{0, 1, 7, -1, 8, leastInt, mostInt} {
			checkNotDropped(t, q, peer)
		}
	}
}

func TestExampleOfQueues(t *testing.T) {
	q := impl.Queue{Limit: 100, Packets: madeOf([2]int{1, 60}, [2]int{2, 30})}
	if n, ok := impl.RoomOf(q); !ok || n != 10 {
		t.Errorf("RoomOf = %d, %v", n, ok)
	}
	checkPushed(t, q, impl.Packet{Size: 10}, true)
	checkPushed(t, q, impl.Packet{Size: 11}, false)
}

func TestQueueSameComparesAllFields(t *testing.T) {
	a := impl.Queue{Limit: 100, Packets: madeOf([2]int{1, 60}, [2]int{2, 30})}
	if !impl.QueueSame(a, a) || !impl.QueueSame(a, impl.Queue{Limit: 100, Packets: slices.Clone(a.Packets)}) {
		t.Error("equal queues are not the same")
	}
	others := []impl.Queue{{}, {Limit: 100}, {Limit: 99, Packets: a.Packets}, {Limit: 101, Packets: a.Packets}, {Packets: a.Packets}, {Limit: -100, Packets: a.Packets}}
	for place := range a.Packets {
		for _, p := range []impl.Packet{{Peer: 1}, {Lane: 1}, {Size: 1}, {Id: 1}} {
			b := slices.Clone(a.Packets)
			b[place].Peer += p.Peer
			b[place].Lane += p.Lane
			b[place].Size += p.Size
			b[place].Id += p.Id
			others = append(others, impl.Queue{Limit: 100, Packets: b})
		}
	}
	p, q := a.Packets[0], a.Packets[1]
	for _, list := range [][]impl.Packet{{p}, {q}, {q, p}, {p, p}, {p, q, q}, {p, q, {}}} {
		others = append(others, impl.Queue{Limit: 100, Packets: list})
	}
	for _, b := range others {
		if impl.QueueSame(a, b) || impl.QueueSame(b, a) {
			t.Errorf("%v and %v are the same", a, b)
		}
	}
}

func TestQueueSameAcceptsInvalidQueues(t *testing.T) {
	all := invalidQueues()
	for i, a := range all {
		for j, b := range all {
			if got := impl.QueueSame(a, b); got != sameQueue(a, b) {
				t.Errorf("QueueSame of the queues %d and %d = %v", i, j, got)
			}
		}
	}
	for _, n := range []int{0, 5, -1, leastInt, mostInt} {
		if !impl.QueueSame(impl.Queue{Limit: n}, impl.Queue{Limit: n, Packets: []impl.Packet{}}) || impl.QueueSame(impl.Queue{Limit: n}, impl.Queue{Limit: n ^ 1}) {
			t.Errorf("empty queues of the limit %d are not compared", n)
		}
	}
	if !impl.QueueSame(impl.Queue{Packets: repeated(1000)}, impl.Queue{Packets: repeated(1000)}) || impl.QueueSame(impl.Queue{Packets: repeated(1000)}, impl.Queue{Packets: repeated(1001)}) {
		t.Error("long queues are not compared")
	}
}

func TestPacketThatJustFits(t *testing.T) {
	for _, q := range smallQueues() {
		room := q.Limit - totalOf(q.Packets)
		for size := 1; size <= min(room+2, 100); size++ {
			checkPushed(t, q, impl.Packet{Peer: 5, Lane: 3, Size: size, Id: 8}, size <= room)
		}
	}
	checkPushed(t, impl.Queue{Limit: 1}, impl.Packet{Size: 1}, true)
	checkPushed(t, impl.Queue{Limit: 1}, impl.Packet{Size: 2}, false)
	checkPushed(t, impl.Queue{Limit: 1, Packets: madeOf([2]int{0, 1})}, impl.Packet{Size: 1}, false)
	checkPushed(t, impl.Queue{Limit: 99}, impl.Packet{Size: 100}, false)
	checkPushed(t, impl.Queue{Limit: 1000, Packets: repeated(9)}, impl.Packet{Size: 100}, true)
	checkPushed(t, impl.Queue{Limit: 999, Packets: repeated(9)}, impl.Packet{Size: 100}, false)
	checkPushed(t, impl.Queue{Limit: 1000, Packets: repeated(10)}, impl.Packet{Size: 1}, false)
}

func TestNoMoreThan64PacketsInAQueue(t *testing.T) {
	p := impl.Packet{Peer: 3, Size: 1, Id: 70}
	checkPushed(t, impl.Queue{Limit: 1000, Packets: ofOneByte(mostPackets - 1)}, p, true)
	checkPushed(t, impl.Queue{Limit: 64, Packets: ofOneByte(mostPackets - 1)}, p, true)
	checkPushed(t, impl.Queue{Limit: 63, Packets: ofOneByte(mostPackets - 1)}, p, false)
	checkPushed(t, impl.Queue{Limit: 1000, Packets: ofOneByte(mostPackets)}, p, false)
}

func TestInvalidPacketsAreNotPushed(t *testing.T) {
	for _, q := range limitQueues() {
		for _, p := range invalidPackets() {
			checkNotPushed(t, q, p)
		}
	}
	for _, p := range validPackets() {
		checkPushed(t, impl.Queue{Limit: 1000, Packets: repeated(2)}, p, true)
	}
}

func TestFirstPacketIsPopped(t *testing.T) {
	for _, q := range append(smallQueues(), limitQueues()...) {
		for len(q.Packets) > 0 {
			rest, p, ok := impl.PopFront(q)
			want := impl.Queue{Limit: q.Limit, Packets: q.Packets[1:]}
			if !ok || p != q.Packets[0] || !sameQueue(rest, want) {
				t.Fatalf("PopFront(%v) = %v, %v, %v", q, rest, p, ok)
			}
			q = rest
		}
		checkNotPopped(t, q)
	}
}

func TestHeaviestPeerHasTheMostBytes(t *testing.T) {
	for _, list := range append(smallLists(), repeated(10), repeated(9), ofOneByte(mostPackets)) {
		if len(list) > 0 {
			peer, bytes := heaviestByHand(list)
			checkHeaviest(t, list, peer, bytes)
		}
	}
	// Many packets are not many bytes, and the greatest packet is not the greatest sum.
	checkHeaviest(t, madeOf([2]int{1, 2}, [2]int{1, 2}, [2]int{1, 2}, [2]int{4, 7}), 4, 7)
	checkHeaviest(t, madeOf([2]int{6, 90}, [2]int{4, 46}, [2]int{5, 80}, [2]int{4, 45}), 4, 91)
	for peer := range 8 {
		checkHeaviest(t, madeOf([2]int{peer, 1}), peer, 1)
		checkHeaviest(t, append(ofOneByte(16), impl.Packet{Peer: peer, Size: 1}), peer, 3)
	}
}

func TestTwoPeersWithAsManyBytes(t *testing.T) {
	checkHeaviest(t, madeOf([2]int{2, 50}, [2]int{1, 50}), 1, 50)
	checkHeaviest(t, madeOf([2]int{1, 50}, [2]int{2, 50}), 1, 50)
	checkHeaviest(t, madeOf([2]int{7, 50}, [2]int{0, 20}, [2]int{0, 30}), 0, 50)
	checkHeaviest(t, madeOf([2]int{0, 49}, [2]int{7, 50}, [2]int{6, 50}), 6, 50)
	q := impl.Queue{Limit: 100, Packets: madeOf([2]int{2, 25}, [2]int{1, 25}, [2]int{2, 25}, [2]int{1, 25})}
	l := q.Packets
	checkShed(t, q, 1, l[:3], []impl.Packet{l[3]})
	checkShed(t, q, 26, l[:2], []impl.Packet{l[3], l[2]})
	checkShed(t, q, 51, l[:1], []impl.Packet{l[3], l[2], l[1]})
	checkShed(t, q, 76, nil, []impl.Packet{l[3], l[2], l[1], l[0]})
}

func TestEmptyQueues(t *testing.T) {
	for _, limit := range []int{1, 2, 999, 1000} {
		for _, q := range []impl.Queue{{Limit: limit}, {Limit: limit, Packets: []impl.Packet{}}} {
			checkNotPopped(t, q)
			checkNoHeaviest(t, q)
			checkShed(t, q, 0, nil, nil)
			checkShed(t, q, limit, nil, nil)
			checkNotShed(t, q, limit+1)
			if got, dropped, ok := impl.DropPeer(q, 3); !ok || len(dropped) != 0 || !sameQueue(got, q) {
				t.Errorf("DropPeer(%v, 3) = %v, %v, %v", q, got, dropped, ok)
			}
		}
	}
}

func TestShedUntilThereIsRoom(t *testing.T) {
	for _, q := range append(smallQueues(), limitQueues()...) {
		room := q.Limit - totalOf(q.Packets)
		for size := max(room-1, 0); size <= q.Limit; size++ {
			rest, shed := shedByHand(q.Packets, q.Limit, size)
			checkShed(t, q, size, rest, shed)
		}
		checkShed(t, q, 0, q.Packets, nil)
		checkShed(t, q, room, q.Packets, nil)
	}
}

func TestShedAll(t *testing.T) {
	for _, q := range append(smallQueues(), limitQueues()...) {
		rest, shed, ok := impl.ShedFor(q, q.Limit)
		if !ok || !sameQueue(rest, impl.Queue{Limit: q.Limit}) || len(shed) != len(q.Packets) {
			t.Errorf("ShedFor(%v, %d) = %v, %v, %v", q, q.Limit, rest, shed, ok)
		}
	}
	q := impl.Queue{Limit: 100, Packets: madeOf([2]int{1, 30}, [2]int{2, 30}, [2]int{1, 20}, [2]int{2, 20})}
	l := q.Packets
	checkShed(t, q, 100, nil, []impl.Packet{l[2], l[3], l[0], l[1]})
	checkShed(t, q, 71, nil, []impl.Packet{l[2], l[3], l[0], l[1]})
	checkShed(t, q, 70, []impl.Packet{l[1]}, []impl.Packet{l[2], l[3], l[0]})
}

func TestEqualPacketsAreShedOneByOne(t *testing.T) {
	p, other := impl.Packet{Peer: 3, Lane: 1, Size: 20, Id: 9}, impl.Packet{Peer: 5, Size: 30, Id: 9}
	q := impl.Queue{Limit: 90, Packets: []impl.Packet{p, other, p, p}}
	checkShed(t, q, 1, []impl.Packet{p, other, p}, []impl.Packet{p})
	checkShed(t, q, 21, []impl.Packet{p, other}, []impl.Packet{p, p})
	checkShed(t, q, 41, []impl.Packet{p}, []impl.Packet{p, p, other})
}

func TestSizesThatAreNotShedFor(t *testing.T) {
	for _, q := range append(smallQueues(), limitQueues()...) {
		for _, size := range []int{-1, q.Limit + 1, -q.Limit, 1001, leastInt, mostInt} {
			checkNotShed(t, q, size)
		}
	}
}

func TestDroppedPeers(t *testing.T) {
	for _, q := range append(smallQueues(), limitQueues()...) {
		for peer := range 8 {
			var stay, leave []impl.Packet
			for _, p := range q.Packets {
				if p.Peer == peer {
					leave = append(leave, p)
				} else {
					stay = append(stay, p)
				}
			}
			got, dropped, ok := impl.DropPeer(q, peer)
			if !ok || !sameQueue(got, impl.Queue{Limit: q.Limit, Packets: stay}) || !slices.Equal(dropped, leave) {
				t.Errorf("DropPeer(%v, %d) = %v, %v, %v", q, peer, got, dropped, ok)
			}
		}
	}
}

func TestPeersThatAreNotDropped(t *testing.T) {
	for _, q := range limitQueues() {
		for _, peer := range []int{-1, 8, leastInt, mostInt} {
			checkNotDropped(t, q, peer)
		}
	}
}

// written is what is written over results, to see what else becomes it.
var written = impl.Packet{Peer: 77, Lane: 77, Size: 77, Id: 77}

// overwrite changes all memory of a list, also that beyond its length.
func overwrite(list []impl.Packet) {
	whole := list[:cap(list)]
	for i := range whole {
		whole[i] = written
	}
}

// queueCalls returns, by name, calls whose results are lists of packets.
func queueCalls() map[string]func(q impl.Queue) [][]impl.Packet {
	push := func(size int) func(q impl.Queue) [][]impl.Packet {
		return func(q impl.Queue) [][]impl.Packet {
			got, _, _ := impl.PushBack(q, impl.Packet{Peer: 1, Size: size, Id: 5})
			return [][]impl.Packet{got.Packets}
		}
	}
	shed := func(size int) func(q impl.Queue) [][]impl.Packet {
		return func(q impl.Queue) [][]impl.Packet {
			got, gone, _ := impl.ShedFor(q, size)
			return [][]impl.Packet{got.Packets, gone}
		}
	}
	drop := func(peer int) func(q impl.Queue) [][]impl.Packet {
		return func(q impl.Queue) [][]impl.Packet {
			got, gone, _ := impl.DropPeer(q, peer)
			return [][]impl.Packet{got.Packets, gone}
		}
	}
	pop := func(q impl.Queue) [][]impl.Packet {
		got, _, _ := impl.PopFront(q)
		return [][]impl.Packet{got.Packets}
	}
	return map[string]func(q impl.Queue) [][]impl.Packet{
		"PushBack of what fits": push(1), "PushBack of what does not fit": push(100), "PopFront": pop,
		"ShedFor nothing": shed(0), "ShedFor some": shed(50), "ShedFor all": shed(100),
		"DropPeer of some": drop(1), "DropPeer of none": drop(6),
	}
}

// memoryQueues returns queues whose lists have spare capacity, in which a careless append would write, and the whole lists.
func memoryQueues() ([]impl.Queue, [][]impl.Packet) {
	var queues []impl.Queue
	var wholes [][]impl.Packet
	lists := [][]impl.Packet{nil, madeOf([2]int{1, 30}), madeOf([2]int{1, 30}, [2]int{2, 30}, [2]int{1, 20}, [2]int{2, 19})}
	// A copy has spare capacity for some lengths only, and the first packet that is shed may land there.
	pairs := [][2]int{{1, 52}}
	for i := range 24 {
		pairs = append(pairs, [2]int{2 + i%4, 2})
		lists = append(lists, madeOf(pairs...))
	}
	for _, list := range lists {
		whole := append(list, repeated(20)...)
		wholes = append(wholes, whole)
		queues = append(queues, impl.Queue{Limit: 100, Packets: whole[:len(list)]})
	}
	return queues, wholes
}

func TestQueuesStayAsTheyAre(t *testing.T) {
	for name, call := range queueCalls() {
		queues, wholes := memoryQueues()
		for i, q := range queues {
			before := slices.Clone(wholes[i])
			impl.QueueValid(q)
			impl.QueueSame(q, q)
			impl.RoomOf(q)
			impl.HeaviestPeer(q)
			results := call(q)
			if !slices.Equal(wholes[i], before) {
				t.Errorf("%s changes the queue %d to %v", name, i, wholes[i])
			}
			for _, list := range results {
				overwrite(list)
			}
			if !slices.Equal(wholes[i], before) {
				t.Errorf("%s shares memory with the queue %d", name, i)
			}
		}
	}
}

func TestResultsOfQueuesShareNoMemory(t *testing.T) {
	for name, call := range queueCalls() {
		queues, _ := memoryQueues()
		for i, q := range queues {
			want := call(q)
			for place := range want {
				first, second := call(q), call(q)
				overwrite(first[place])
				for other := range want {
					if !slices.Equal(second[other], want[other]) || other != place && !slices.Equal(first[other], want[other]) {
						t.Errorf("%s of the queue %d: the results %d and %d share memory", name, i, place, other)
					}
				}
			}
		}
	}
}

// stepOf makes one call, and returns the queue, and how many packets and bytes came in less those that went out.
func stepOf(q impl.Queue, kind int, n int) (impl.Queue, int, int, bool) {
	switch kind {
	case 0, 1, 2, 3:
		p := impl.Packet{Peer: n % 8, Lane: n % 4, Size: n%37 + 1, Id: n % 10000}
		got, in, ok := impl.PushBack(q, p)
		if !in {
			return got, 0, 0, ok
		}
		return got, 1, p.Size, ok
	case 4:
		if len(q.Packets) == 0 {
			return q, 0, 0, true
		}
		got, p, ok := impl.PopFront(q)
		return got, -1, -p.Size, ok
	case 5:
		got, shed, ok := impl.ShedFor(q, n%(q.Limit+1))
		room, _ := impl.RoomOf(got)
		return got, -len(shed), -totalOf(shed), ok && room >= n%(q.Limit+1)
	default:
		got, dropped, ok := impl.DropPeer(q, n%8)
		return got, -len(dropped), -totalOf(dropped), ok
	}
}

// TestQueuesNeverHaveMoreBytesThanTheirLimit follows rows of calls: what came in waits or went out, and never is more than the limit.
func TestQueuesNeverHaveMoreBytesThanTheirLimit(t *testing.T) {
	for seed := range 60 {
		q := impl.Queue{Limit: []int{1, 40, 200, 999, 1000}[seed%5]}
		limit, n, count, bytes := q.Limit, seed, 0, 0
		for range 400 {
			n = (n*1103515245 + 12345) % 2147483648
			// Most rows have few calls that empty a queue, so that it becomes full.
			kind := n / 65536 % 40 % (5 + seed%3)
			next, more, added, ok := stepOf(q, kind, n/256)
			count, bytes = count+more, bytes+added
			room, okRoom := impl.RoomOf(next)
			full := len(next.Packets) > mostPackets || totalOf(next.Packets) > limit
			if !ok || !okRoom || full || next.Limit != limit || len(next.Packets) != count || totalOf(next.Packets) != bytes || room != limit-bytes {
				t.Fatalf("row %d, call %d of %v: %v, %v", seed, kind, q, next, ok)
			}
			q = next
		}
	}
}
