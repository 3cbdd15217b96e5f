package network

import "amnesia/api"

// mail is what comes to an address. Its text is nobody's memory, so that places, copies and the record may have it together.
type mail struct {
	to   int
	text string
}

// packet is mail with where it says that it is from.
type packet struct {
	mail
	from int
}

// senders are the addresses that have sent the same mail: address a is bit a, and all of them are below 32.
type senders uint32

// incoming: a packet as it comes in, copied.
func incoming(p api.Packet) packet {
	return packet{mail: mail{to: p.To, text: string(p.Bytes)}, from: p.From}
}

// outgoing: the packet as it goes out, copied.
func (p packet) outgoing() api.Packet {
	own := make([]byte, len(p.text))
	copy(own, p.text)
	return api.Packet{From: p.from, To: p.to, Bytes: own}
}

// turned: the packet with another byte, which it must have.
func (p packet) turned(at int, mask byte) packet {
	text := []byte(p.text)
	text[at] ^= mask
	p.text = string(text)
	return p
}

// tell: the packet in a place of a list. ErrPacket: there is none.
func tell(list []packet, place int) (api.Packet, api.Errno) {
	if !isWithin(place, len(list)) {
		return api.Packet{}, api.ErrPacket
	}
	return list[place].outgoing(), api.OK
}

func isWithin(place, length int) bool { return place >= 0 && place < length }

// isAddress: is it a replica's, or a client's?
func (n *Net) isAddress(a int) bool {
	return isWithin(a, n.nodes) || a >= api.MaxNodes && a-api.MaxNodes < n.clients
}

// lay lays a packet at the pool's end.
func (n *Net) lay(p packet) { n.pool = append(n.pool, p) }

// keep lays a packet at the record's end, if the record has not the same one. It must be from an address.
func (n *Net) keep(p packet) {
	sender := senders(1) << p.from
	if n.sent[p.mail]&sender != 0 {
		return
	}
	n.sent[p.mail] |= sender
	n.record = append(n.record, p)
}
