package wire

import (
	"math"

	"ferry/api"
	"ferry/thing"
)

// mayBe tells if a record may be.
func mayBe(r api.Record) bool {
	switch r.Kind {
	case api.Mint:
		return r.Seq == 0 && thing.MayBe(r.Item) && noBase(r)
	case api.Destroy:
		return r.Seq == 0 && thing.IDMayBe(r.Item.ID) && still(r.Item) && noBase(r)
	case api.Tick:
		return r.Seq == 0 && noThing(r.Item) && noBase(r)
	case api.Arrive, api.Cross:
		return r.Seq >= 1 && isNumber(r.Seq) && thing.MayBe(r.Item) && noBase(r)
	case api.Acked, api.Ack:
		return isNumber(r.Seq) && noThing(r.Item) && noBase(r)
	case api.Base:
		return r.Seq == 0 && noThing(r.Item) && baseMayBe(r)
	}
	return false
}

func isNumber(n int) bool {
	return 0 <= n && n <= api.MaxNumber
}

func noThing(item api.Item) bool {
	return item.ID == api.ID{} && still(item)
}

// still looks at the patterns, since a nought with a minus sign equals 0 but would be lost.
func still(item api.Item) bool {
	return math.Float32bits(item.Place) == 0 && math.Float32bits(item.Speed) == 0
}

func noBase(r api.Record) bool {
	return r.Marks == api.Marks{} && len(r.Items) == 0 && len(r.Outbox) == 0
}

func baseMayBe(r api.Record) bool {
	return marksMayBe(r.Marks) && itemsMayBe(r.Items) && outboxMayBe(r.Outbox)
}

func marksMayBe(m api.Marks) bool {
	return isNumber(m.Generation) && isNumber(m.Minted) && isNumber(m.Sent) && isNumber(m.Acked) && isNumber(m.Seen)
}

func itemsMayBe(items []api.Item) bool {
	if len(items) > api.MaxItems {
		return false
	}
	for i, item := range items {
		if !thing.MayBe(item) {
			return false
		}
		if i > 0 && thing.Compare(items[i-1].ID, item.ID) >= 0 {
			return false
		}
	}
	return true
}

func outboxMayBe(outbox []api.Entry) bool {
	if len(outbox) > api.MaxOutbox {
		return false
	}
	last := 0
	for _, entry := range outbox {
		if entry.Seq <= last || !isNumber(entry.Seq) || !thing.MayBe(entry.Item) {
			return false
		}
		last = entry.Seq
	}
	return true
}
