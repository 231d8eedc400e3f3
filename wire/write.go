package wire

import (
	"math"

	"ferry/api"
)

// putRecord puts the kind and what it has behind b, without the sum.
func putRecord(b []byte, r api.Record) []byte {
	b = append(b, byte(r.Kind))
	switch r.Kind {
	case api.Mint:
		b = putThing(b, r.Item)
	case api.Destroy:
		b = putID(b, r.Item.ID)
	case api.Arrive, api.Cross:
		b = putNumber(b, r.Seq)
		b = putThing(b, r.Item)
	case api.Acked, api.Ack:
		b = putNumber(b, r.Seq)
	case api.Base:
		b = putMarks(b, r.Marks)
		b = putItems(b, r.Items)
		b = putOutbox(b, r.Outbox)
	}
	return b
}

func putNumber(b []byte, n int) []byte {
	return append(b, byte(n>>8), byte(n))
}

func putFloat(b []byte, x float32) []byte {
	n := math.Float32bits(x)
	return append(b, byte(n>>24), byte(n>>16), byte(n>>8), byte(n))
}

func putID(b []byte, id api.ID) []byte {
	return putNumber(append(b, byte(id.Shard)), id.Number)
}

func putThing(b []byte, item api.Item) []byte {
	b = putID(b, item.ID)
	b = putFloat(b, item.Place)
	return putFloat(b, item.Speed)
}

func putMarks(b []byte, m api.Marks) []byte {
	b = putNumber(b, m.Generation)
	b = putNumber(b, m.Minted)
	b = putNumber(b, m.Sent)
	b = putNumber(b, m.Acked)
	return putNumber(b, m.Seen)
}

func putItems(b []byte, items []api.Item) []byte {
	b = append(b, byte(len(items)))
	for _, item := range items {
		b = putThing(b, item)
	}
	return b
}

func putOutbox(b []byte, outbox []api.Entry) []byte {
	b = append(b, byte(len(outbox)))
	for _, entry := range outbox {
		b = putNumber(b, entry.Seq)
		b = putThing(b, entry.Item)
	}
	return b
}
