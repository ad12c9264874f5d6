package network

import "hansard/api"

// maxData is how many bytes a packet may carry.
const maxData = 1 << 20

// areParties reports whether a and b are the numbers of two parties.
func areParties(a, b int) bool {
	return a != b && min(a, b) >= 0 && max(a, b) < api.MaxNodes
}

func validPacket(p api.Packet) bool {
	return areParties(p.From, p.To) && len(p.Data) <= maxData
}

func validQueue(l []api.Packet) bool {
	if len(l) > api.MaxPackets {
		return false
	}
	for _, p := range l {
		if !validPacket(p) {
			return false
		}
	}
	return true
}

// remove returns a queue without one of its packets.
func remove(l []api.Packet, at int) []api.Packet {
	// What is before the packet has no room behind it: the packets that follow must not be written over the ones of the argument.
	return append(l[:at:at], l[at+1:]...)
}
