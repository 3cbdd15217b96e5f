package history

import (
	"amnesia/api"
	"amnesia/message"
	"amnesia/nonce"
)

// few: the first row behind which more than F replicas are crashed or recovering.
func few(c api.Config, rows []api.Seen) int {
	away := make(map[int]struct{}) // by node: crashed or recovering
	for number, row := range rows {
		switch row.Kind {
		case api.SeenDown, api.SeenUp:
			away[row.Node] = struct{}{}
		case api.SeenBack:
			delete(away, row.Node)
		}
		if len(away) > c.F {
			return number
		}
	}
	return -1
}

// fresh: the first row at which a replica starts with a draw that is not above all that it had.
func fresh(rows []api.Seen) int {
	var drawn []api.Stamp
	var numbers []int // of each draw its row
	for number, row := range rows {
		if row.Kind == api.SeenUp {
			drawn, numbers = append(drawn, api.Stamp{Node: row.Node, Draw: row.Draw}), append(numbers, number)
		}
	}
	if rises, at := nonce.Fresh(drawn); !rises {
		return numbers[at]
	}
	return -1
}

// parcel is what makes two packets the same here: whoever sent them.
type parcel struct {
	to   int
	text string
}

// genuine: the first row at which a packet comes that decodes, and was not sent to that address before.
func genuine(c api.Config, rows []api.Seen) int {
	sent := make(map[parcel]struct{})
	for number, row := range rows {
		p := parcel{row.Packet.To, string(row.Packet.Bytes)}
		switch row.Kind {
		case api.SeenSent:
			sent[p] = struct{}{}
		case api.SeenTaken:
			if _, is := sent[p]; is {
				continue
			}
			if _, e := message.Decode(c, row.Packet.Bytes); e == api.OK {
				return number
			}
		}
	}
	return -1
}
