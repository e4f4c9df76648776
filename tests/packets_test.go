package tests

import (
	"slices"
	"strconv"
	"strings"
	"testing"

	"loop.example/trafficguard/impl"
)

const mostPackets = 64

// repeated returns count packets of 100 bytes with different Ids.
func repeated(count int) []impl.Packet {
	var list []impl.Packet
	for i := range count {
		list = append(list, impl.Packet{Peer: i % 8, Lane: i % 4, Size: 100, Id: i})
	}
	return list
}

// textOf joins the parts by hand, so that it does not depend on the program.
func textOf(p impl.Packet) string {
	return strconv.Itoa(p.Peer) + "/" + strconv.Itoa(p.Lane) + ":" + strconv.Itoa(p.Size) + "#" + strconv.Itoa(p.Id)
}

func textsOf(list []impl.Packet) string {
	var texts []string
	for _, p := range list {
		texts = append(texts, textOf(p))
	}
	return strings.Join(texts, " ")
}

func validPackets() []impl.Packet {
	return []impl.Packet{
		{Peer: 2, Lane: 0, Size: 30, Id: 7},
		{Peer: 0, Lane: 0, Size: 1, Id: 0},
		{Peer: 7, Lane: 3, Size: 100, Id: 9999},
		{Peer: 7, Lane: 0, Size: 1, Id: 0},
		{Peer: 0, Lane: 3, Size: 1, Id: 0},
		{Peer: 0, Lane: 0, Size: 100, Id: 0},
		{Peer: 0, Lane: 0, Size: 1, Id: 9999},
		{Peer: 1, Lane: 2, Size: 10, Id: 1000},
	}
}

func invalidPackets() []impl.Packet {
	const most, least = int(^uint(0) >> 1), -int(^uint(0)>>1) - 1
	list := []impl.Packet{{}}
	for _, n := range []int{-1, 8, least, most} {
		list = append(list, impl.Packet{Peer: n, Lane: 1, Size: 30, Id: 7})
	}
	for _, n := range []int{-1, 4, least, most} {
		list = append(list, impl.Packet{Peer: 2, Lane: n, Size: 30, Id: 7})
	}
	for _, n := range []int{-1, 0, 101, least, most} {
		list = append(list, impl.Packet{Peer: 2, Lane: 1, Size: n, Id: 7})
	}
	for _, n := range []int{-1, 10000, least, most} {
		list = append(list, impl.Packet{Peer: 2, Lane: 1, Size: 30, Id: n})
	}
	return list
}

func TestPacketLimitConstants(t *testing.T) {
	if impl.MaxPeers != 8 || impl.MaxLanes != 4 || impl.MaxSize != 100 || impl.MaxId != 9999 {
		t.Errorf("limits = %d, %d, %d, %d", impl.MaxPeers, impl.MaxLanes, impl.MaxSize, impl.MaxId)
	}
}

func TestValidPacketHasText(t *testing.T) {
	for _, p := range validPackets() {
		if !impl.PacketValid(p) {
			t.Errorf("PacketValid(%v) = false", p)
		}
		if got := impl.FormatPacket(p); got != textOf(p) {
			t.Errorf("FormatPacket(%v) = %q, want %q", p, got, textOf(p))
		}
		if got, ok := impl.ParsePacket(textOf(p)); !ok || got != p {
			t.Errorf("ParsePacket(%q) = %v, %v", textOf(p), got, ok)
		}
	}
}

func TestInvalidPacketHasNoText(t *testing.T) {
	for _, p := range invalidPackets() {
		if impl.PacketValid(p) {
			t.Errorf("PacketValid(%v) = true", p)
		}
		if got := impl.FormatPacket(p); got != "" {
			t.Errorf("FormatPacket(%v) = %q", p, got)
		}
		if got, ok := impl.ParsePacket(textOf(p)); ok || got != (impl.Packet{}) {
			t.Errorf("ParsePacket(%q) = %v, %v", textOf(p), got, ok)
		}
	}
}

func TestEveryValueOfEachFieldIsReadBack(t *testing.T) {
	check := func(p impl.Packet) {
		t.Helper()
		text := impl.FormatPacket(p)
		if got, ok := impl.ParsePacket(text); text != textOf(p) || !ok || got != p {
			t.Errorf("%v has the text %q, which is read as %v, %v", p, text, got, ok)
		}
	}
	for peer := range 8 {
		for lane := range 4 {
			for size := 1; size <= 100; size++ {
				check(impl.Packet{Peer: peer, Lane: lane, Size: size, Id: 9999 - size})
			}
		}
	}
	for id := range 10000 {
		check(impl.Packet{Peer: id % 8, Lane: id % 4, Size: id%100 + 1, Id: id})
	}
}

func TestTextsThatAreNoPackets(t *testing.T) {
	texts := []string{
		"", " ", "/", "/:#", "2", "2/0", "2/0:30", "2/0:30#", "2/0:#7", "2/:30#7", "/0:30#7", "0:30#7", "2/30#7", "2/0#7", "2/0:7",
		"02/0:30#7", "00/0:30#7", "2/00:30#7", "2/01:30#7", "2/0:030#7", "2/0:00#7", "2/0:30#07", "2/0:30#00", "2/0:30#00007",
		"+2/0:30#7", "2/+0:30#7", "2/0:+30#7", "2/0:30#+7", "-2/0:30#7", "-0/0:30#7", "2/-0:30#7", "2/0:-30#7", "2/0:30#-7", "2/0:30#-0",
		" 2/0:30#7", "2/0:30#7 ", "2 /0:30#7", "2/ 0:30#7", "2/0: 30#7", "2/0:30 #7", "2/0:30# 7", "2/0:30#7\n", "\t2/0:30#7", "2/0:30#7\x00",
		"2//0:30#7", "2/0::30#7", "2/0:30##7", "2/0:30#7#", "2/0:30#7#7", "2/0:30#7/0", "2/0:30#7 1/0:30#8",
		"2:0/30#7", "2#0:30/7", "2/0#30:7", "2,0,30,7", "2/0:30x7", "a/0:30#7", "2/a:30#7", "2/0:a#7", "2/0:30#a", "2/0:3a#7", "2/0:30#7a",
		"0x2/0:30#7", "2/0:1e1#7", "2/0:3_0#7", "2/0:30.0#7", "\u0662/0:30#7", "2/0:30#\u0667", "\xff/0:30#7", "2/0:30#7\xff",
		"8/0:30#7", "2/4:30#7", "2/0:0#7", "2/0:101#7", "2/0:30#10000", "10/0:30#7", "2/10:30#7",
		"18446744073709551618/0:30#7", "2/18446744073709551616:30#7", "2/0:18446744073709551646#7", "2/0:30#18446744073709551623",
		"2/0:30#" + strings.Repeat("9", 1000), "2/0:30#" + strings.Repeat("0", 1000) + "7",
	}
	for _, text := range texts {
		if got, ok := impl.ParsePacket(text); ok || got != (impl.Packet{}) {
			t.Errorf("ParsePacket(%q) = %v, %v", text, got, ok)
		}
		if text == "" || text == "2/0:30#7 1/0:30#8" {
			continue
		}
		if got, ok := impl.ParsePackets(text); ok || len(got) != 0 {
			t.Errorf("ParsePackets(%q) = %v, %v", text, got, ok)
		}
	}
}

// TestChangedTextsAreReadBack changes one byte of a text in every way: what is still read must be written the same.
func TestChangedTextsAreReadBack(t *testing.T) {
	for _, base := range []string{"2/0:30#7", "0/0:1#0", "7/3:100#9999", "2/0:30#7 1/3:100#0"} {
		for i := range len(base) + 1 {
			for c := range 256 {
				checkReadBack(t, base[:i]+string([]byte{byte(c)})+base[i:])
				if i < len(base) {
					checkReadBack(t, base[:i]+string([]byte{byte(c)})+base[i+1:])
				}
			}
			if i < len(base) {
				checkReadBack(t, base[:i]+base[i+1:])
			}
		}
	}
}

func checkReadBack(t *testing.T, text string) {
	t.Helper()
	p, ok := impl.ParsePacket(text)
	if ok && (!impl.PacketValid(p) || impl.FormatPacket(p) != text) || !ok && p != (impl.Packet{}) {
		t.Errorf("ParsePacket(%q) = %v, %v", text, p, ok)
	}
	list, ok := impl.ParsePackets(text)
	if ok && impl.FormatPackets(list) != text || !ok && len(list) != 0 {
		t.Errorf("ParsePackets(%q) = %v, %v", text, list, ok)
	}
}

func TestSizeOfAddsSizes(t *testing.T) {
	cases := []struct {
		list []impl.Packet
		want int
	}{
		{nil, 0},
		{[]impl.Packet{}, 0},
		{[]impl.Packet{{Size: 1}}, 1},
		{[]impl.Packet{{Size: 30}, {Peer: 1, Size: 100}, {Peer: 2, Lane: 3, Size: 5, Id: 9}}, 135},
		{[]impl.Packet{{Size: 30}, {Size: 30}}, 60},
		{repeated(mostPackets), 6400},
	}
	for _, c := range cases {
		if got, ok := impl.SizeOf(c.list); !ok || got != c.want {
			t.Errorf("SizeOf(%v) = %d, %v, want %d", c.list, got, ok, c.want)
		}
	}
}

func TestListsWithAnInvalidPacketHaveNoSizeAndNoText(t *testing.T) {
	for _, p := range invalidPackets() {
		for place := range 3 {
			list := slices.Insert(repeated(2), place, p)
			if got, ok := impl.SizeOf(list); ok || got != 0 {
				t.Errorf("SizeOf(%v) = %d, %v", list, got, ok)
			}
			if got := impl.FormatPackets(list); got != "" {
				t.Errorf("FormatPackets(%v) = %q", list, got)
			}
			if got, ok := impl.ParsePackets(textsOf(list)); ok || len(got) != 0 {
				t.Errorf("ParsePackets(%q) = %v, %v", textsOf(list), got, ok)
			}
		}
	}
}

func TestTooManyPacketsHaveNoSizeAndNoText(t *testing.T) {
	for _, count := range []int{mostPackets + 1, mostPackets + 2, 1000} {
		list := repeated(count)
		if got, ok := impl.SizeOf(list); ok || got != 0 {
			t.Errorf("SizeOf of %d packets = %d, %v", count, got, ok)
		}
		if got := impl.FormatPackets(list); got != "" {
			t.Errorf("FormatPackets of %d packets = %q", count, got)
		}
		if got, ok := impl.ParsePackets(textsOf(list)); ok || len(got) != 0 {
			t.Errorf("ParsePackets of %d packets = %v, %v", count, got, ok)
		}
	}
}

func TestListsAreReadBack(t *testing.T) {
	for _, list := range [][]impl.Packet{nil, {}, repeated(1), repeated(2), repeated(mostPackets - 1), repeated(mostPackets), validPackets()} {
		text := impl.FormatPackets(list)
		if text != textsOf(list) {
			t.Errorf("FormatPackets(%v) = %q", list, text)
		}
		if got, ok := impl.ParsePackets(text); !ok || !slices.Equal(got, list) {
			t.Errorf("ParsePackets(%q) = %v, %v", text, got, ok)
		}
	}
}

func TestNoPacketsHaveTheEmptyText(t *testing.T) {
	if got, ok := impl.ParsePackets(""); !ok || len(got) != 0 {
		t.Errorf("ParsePackets of the empty string = %v, %v", got, ok)
	}
	if got := impl.FormatPackets(nil); got != "" {
		t.Errorf("FormatPackets of no packets = %q", got)
	}
}

func TestTextsThatAreNoLists(t *testing.T) {
	texts := []string{
		" ", "  ", " 2/0:30#7", "2/0:30#7 ", "2/0:30#7  1/0:30#8", "2/0:30#7\t1/0:30#8", "2/0:30#7\n1/0:30#8", "2/0:30#7,1/0:30#8",
		"2/0:30#71/0:30#8", "2/0:30#7 1/0:30#08", "02/0:30#7 1/0:30#8", "2/0:30#7 1/0:30", "2/0:30#7 x 1/0:30#8", "\n",
		strings.Repeat(" ", 100000), textsOf(repeated(mostPackets)) + " ", " " + textsOf(repeated(mostPackets)),
	}
	for _, text := range texts {
		if got, ok := impl.ParsePackets(text); ok || len(got) != 0 {
			t.Errorf("ParsePackets(%q) = %v, %v", text, got, ok)
		}
	}
}

func TestOfPeerKeepsTheOrder(t *testing.T) {
	list := []impl.Packet{{Peer: 2, Size: 9, Id: 3}, {Peer: 1, Size: 9, Id: 2}, {Peer: 2, Size: 1, Id: 1}, {Peer: 0, Size: 5}, {Peer: 2, Size: 9, Id: 3}}
	cases := []struct {
		peer int
		want []impl.Packet
	}{
		{2, []impl.Packet{list[0], list[2], list[4]}},
		{1, []impl.Packet{list[1]}},
		{0, []impl.Packet{list[3]}},
		{7, nil},
		{-1, nil},
		{8, nil},
	}
	for _, c := range cases {
		if got := impl.OfPeer(list, c.peer); !slices.Equal(got, c.want) {
			t.Errorf("OfPeer(%d) = %v, want %v", c.peer, got, c.want)
		}
	}
	if got := impl.OfPeer(nil, 0); len(got) != 0 {
		t.Errorf("OfPeer of no packets = %v", got)
	}
}

func TestOfPeerAcceptsInvalidPackets(t *testing.T) {
	for _, p := range invalidPackets() {
		other := p
		other.Peer = p.Peer ^ 1
		if got := impl.OfPeer([]impl.Packet{p, other, p}, p.Peer); !slices.Equal(got, []impl.Packet{p, p}) {
			t.Errorf("OfPeer of %v = %v", p, got)
		}
	}
	list := make([]impl.Packet, 1000)
	if got := impl.OfPeer(list, 0); len(got) != 1000 {
		t.Errorf("OfPeer of 1000 packets has %d", len(got))
	}
}

func TestPacketsSameComparesAllFieldsInOrder(t *testing.T) {
	a := []impl.Packet{{Peer: 1, Lane: 2, Size: 3, Id: 4}, {Peer: 5, Lane: 3, Size: 7, Id: 8}}
	if !impl.PacketsSame(a, slices.Clone(a)) || !impl.PacketsSame(a, a) {
		t.Error("equal lists are not the same")
	}
	others := [][]impl.Packet{nil, {}, {a[0]}, {a[1]}, {a[1], a[0]}, {a[0], a[0]}, {a[0], a[1], a[1]}, {a[0], a[1], {}}}
	for place := range a {
		for _, p := range []impl.Packet{{Peer: 1}, {Lane: 1}, {Size: 1}, {Id: 1}, {Peer: 1, Lane: -1}} {
			b := slices.Clone(a)
			b[place].Peer += p.Peer
			b[place].Lane += p.Lane
			b[place].Size += p.Size
			b[place].Id += p.Id
			others = append(others, b)
		}
	}
	for _, b := range others {
		if impl.PacketsSame(a, b) || impl.PacketsSame(b, a) {
			t.Errorf("%v and %v are the same", a, b)
		}
	}
}

func TestPacketsSameAcceptsEmptyInvalidAndLongLists(t *testing.T) {
	if !impl.PacketsSame(nil, nil) || !impl.PacketsSame(nil, []impl.Packet{}) || !impl.PacketsSame([]impl.Packet{}, nil) {
		t.Error("empty lists are not the same")
	}
	if impl.PacketsSame(nil, []impl.Packet{{}}) || impl.PacketsSame([]impl.Packet{{}}, nil) {
		t.Error("a zero packet is the same as none")
	}
	bad := invalidPackets()
	if !impl.PacketsSame(bad, slices.Clone(bad)) || impl.PacketsSame(bad, bad[1:]) {
		t.Error("invalid packets are not compared")
	}
	if !impl.PacketsSame(repeated(1000), repeated(1000)) || impl.PacketsSame(repeated(1000), repeated(1001)) {
		t.Error("long lists are not compared")
	}
}

// TestArgumentsStayAsTheyAre gives lists with spare capacity, in which a careless append would write.
func TestArgumentsStayAsTheyAre(t *testing.T) {
	whole := append(validPackets(), repeated(20)...)
	before := slices.Clone(whole)
	list := whole[:8]
	impl.SizeOf(list)
	impl.FormatPackets(list)
	impl.PacketsSame(list, whole[:9])
	for peer := range 8 {
		found := impl.OfPeer(list, peer)
		found = append(found, impl.Packet{Id: 1234})
		for i := range found {
			found[i].Size = 77
		}
	}
	if !slices.Equal(whole, before) {
		t.Errorf("the packets became %v", whole)
	}
}

func TestResultsShareNoMemory(t *testing.T) {
	list := repeated(4)
	same := make([]impl.Packet, 4)
	a, b := impl.OfPeer(same, 0), impl.OfPeer(same, 0)
	a[0].Id = 5
	if b[0].Id != 0 || same[0].Id != 0 {
		t.Error("results of OfPeer share memory")
	}
	c, _ := impl.ParsePackets(textsOf(list))
	d, _ := impl.ParsePackets(textsOf(list))
	c[0].Id = 5
	if !slices.Equal(d, list) {
		t.Error("results of ParsePackets share memory")
	}
}
