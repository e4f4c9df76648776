package impl

import (
	"slices"
	"strconv"
	"strings"
)

// Packet is what a peer sends.
type Packet struct {
	Peer int
	Lane int
	Size int
	Id   int
}

// Limits of packets.
const (
	MaxPeers = 8
	MaxLanes = 4
	MaxSize  = 100
	MaxId    = 9999
)

// maxPackets is the greatest number of packets in a list that has a size or a text.
const maxPackets = 64

// maxDigits keeps each number that is parsed far from an overflow.
const maxDigits = 17

// PacketValid reports whether p is a packet.
func PacketValid(p Packet) bool {
	return within(p.Peer, 0, MaxPeers-1) && within(p.Lane, 0, MaxLanes-1) &&
		within(p.Size, 1, MaxSize) && within(p.Id, 0, MaxId)
}

// FormatPacket returns the text of a packet.
func FormatPacket(p Packet) string {
	if !PacketValid(p) {
		return ""
	}
	return strconv.Itoa(p.Peer) + "/" + strconv.Itoa(p.Lane) + ":" + strconv.Itoa(p.Size) + "#" + strconv.Itoa(p.Id)
}

// ParsePacket parses the text of a packet.
func ParsePacket(text string) (Packet, bool) {
	// A separator that is missing leaves an empty rest, which is no number.
	peerText, rest, _ := strings.Cut(text, "/")
	laneText, rest, _ := strings.Cut(rest, ":")
	sizeText, idText, _ := strings.Cut(rest, "#")
	peer, okPeer := parseNumber(peerText)
	lane, okLane := parseNumber(laneText)
	size, okSize := parseNumber(sizeText)
	id, okId := parseNumber(idText)
	p := Packet{Peer: peer, Lane: lane, Size: size, Id: id}
	if !okPeer || !okLane || !okSize || !okId || !PacketValid(p) {
		return Packet{}, false
	}
	return p, true
}

// SizeOf returns the sum of the sizes of packets.
func SizeOf(list []Packet) (int, bool) {
	if !packetsValid(list) {
		return 0, false
	}
	sum := 0
	for _, p := range list {
		sum += p.Size
	}
	return sum, true
}

// OfPeer returns the packets of a peer.
func OfPeer(list []Packet, peer int) []Packet {
	var found []Packet
	for _, p := range list {
		if p.Peer == peer {
			found = append(found, p)
		}
	}
	return found
}

// PacketsSame reports whether two lists are equal.
func PacketsSame(a []Packet, b []Packet) bool {
	return slices.Equal(a, b)
}

// FormatPackets returns the text of packets.
func FormatPackets(list []Packet) string {
	if !packetsValid(list) {
		return ""
	}
	var texts []string
	for _, p := range list {
		texts = append(texts, FormatPacket(p))
	}
	return strings.Join(texts, " ")
}

// ParsePackets parses the text of packets.
func ParsePackets(text string) ([]Packet, bool) {
	if text == "" {
		return nil, true
	}
	if strings.Count(text, " ") >= maxPackets {
		return nil, false
	}
	var list []Packet
	for _, part := range strings.Split(text, " ") {
		p, ok := ParsePacket(part)
		if !ok {
			return nil, false
		}
		list = append(list, p)
	}
	return list, true
}

// packetsValid reports whether there are not too many packets, and all of them are valid.
func packetsValid(list []Packet) bool {
	if len(list) > maxPackets {
		return false
	}
	for _, p := range list {
		if !PacketValid(p) {
			return false
		}
	}
	return true
}

// within reports whether n is a number from low to high.
func within(n int, low int, high int) bool {
	return low <= n && n <= high
}

// parseNumber accepts only what the program itself would write, so that no two texts mean the same number.
func parseNumber(text string) (int, bool) {
	if text == "" || len(text) > maxDigits || (text[0] == '0' && len(text) > 1) {
		return 0, false
	}
	n := 0
	for i := range len(text) {
		if text[i] < '0' || text[i] > '9' {
			return 0, false
		}
		n = n*10 + int(text[i]-'0')
	}
	return n, true
}
