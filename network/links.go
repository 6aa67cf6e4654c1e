package network

import (
	"cmp"
	"iter"

	"signatory/api"
)

const maxData = 1 << 20 // bytes of a packet

func isParty(a int) bool { return a >= 0 && a < api.MaxNodes }

func areParties(a, b int) bool { return isParty(a) && isParty(b) && a != b }

func validPacket(p api.Packet) bool {
	return areParties(p.From, p.To) && len(p.Data) <= maxData
}

func validQueue(l []api.Packet) bool {
	if len(l) > api.MaxPackets {
		return false
	}
	for _, p := range l {
		if !validPacket(p) {
			return false
		}
	}
	return true
}

func validApart(l [][2]int) bool {
	for i, q := range l {
		if !areParties(q[0], q[1]) || q[0] > q[1] {
			return false
		}
		if i > 0 && compare(l[i-1], q) >= 0 {
			return false
		}
	}
	return true
}

// checkIndex returns ErrNet unless n is valid, and ErrArg unless at is an index of its packets.
func checkIndex(n api.Net, at int) api.Errno {
	if Check(n) != api.OK {
		return api.ErrNet
	}
	if at < 0 || at >= len(n.Queue) {
		return api.ErrArg
	}
	return api.OK
}

// pairOf returns the same pair for both directions of a link.
func pairOf(a, b int) [2]int { return [2]int{min(a, b), max(a, b)} }

func compare(p, q [2]int) int {
	return cmp.Or(cmp.Compare(p[0], q[0]), cmp.Compare(p[1], q[1]))
}

// others yields the pairs of a list except one.
func others(l [][2]int, pair [2]int) iter.Seq[[2]int] {
	return func(yield func([2]int) bool) {
		for _, q := range l {
			if q != pair && !yield(q) {
				return
			}
		}
	}
}

// queued returns links with one more packet, or ErrLimit.
func queued(n api.Net, p api.Packet) (x api.Net, e api.Errno) {
	k := len(n.Queue)
	if k == api.MaxPackets {
		return api.Net{}, api.ErrLimit
	}
	// Without its spare memory, where the packet of other links may lie that were made of n.
	n.Queue = append(n.Queue[:k:k], p)
	return n, api.OK
}

// dropped returns links without one of their packets.
func dropped(n api.Net, at int) (x api.Net) {
	// The third index makes append copy the packets before it, so that n keeps its queue.
	n.Queue = append(n.Queue[:at:at], n.Queue[at+1:]...)
	return n
}
