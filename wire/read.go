package wire

import (
	"math"

	"ferry/api"
)

// reader reads from the beginning of rest; behind its end there are noughts, so that reading never fails.
type reader struct {
	rest string
}

// record reads a kind and what it has, and leaves the sum.
func (in *reader) record() api.Record {
	r := api.Record{Kind: in.oneByte()}
	switch r.Kind {
	case api.Mint:
		r.Item = in.thing()
	case api.Destroy:
		r.Item.ID = in.id()
	case api.Arrive, api.Cross:
		r.Seq = in.number()
		r.Item = in.thing()
	case api.Acked, api.Ack:
		r.Seq = in.number()
	case api.Base:
		r.Marks = in.marks()
		r.Items = in.items()
		r.Outbox = in.outbox()
	}
	return r
}

func (in *reader) oneByte() int {
	if in.rest == "" {
		return 0
	}
	first := in.rest[0]
	in.rest = in.rest[1:]
	return int(first)
}

func (in *reader) number() int {
	high := in.oneByte()
	return high<<8 | in.oneByte()
}

func (in *reader) float() float32 {
	high := uint32(in.number())
	return math.Float32frombits(high<<16 | uint32(in.number()))
}

// The readers of several parts read each in a statement of its own, as their order is that of the bytes.

func (in *reader) id() api.ID {
	var id api.ID
	id.Shard = in.oneByte()
	id.Number = in.number()
	return id
}

func (in *reader) thing() api.Item {
	var item api.Item
	item.ID = in.id()
	item.Place = in.float()
	item.Speed = in.float()
	return item
}

func (in *reader) marks() api.Marks {
	var m api.Marks
	m.Generation = in.number()
	m.Minted = in.number()
	m.Sent = in.number()
	m.Acked = in.number()
	m.Seen = in.number()
	return m
}

func (in *reader) items() []api.Item {
	var items []api.Item
	for range in.oneByte() {
		items = append(items, in.thing())
	}
	return items
}

func (in *reader) outbox() []api.Entry {
	var outbox []api.Entry
	for range in.oneByte() {
		var entry api.Entry
		entry.Seq = in.number()
		entry.Item = in.thing()
		outbox = append(outbox, entry)
	}
	return outbox
}
