package shard

import (
	"maps"
	"slices"

	"ferry/api"
	"ferry/thing"
)

// state is what a shard has.
type state struct {
	things map[api.ID]api.Item
	outbox []api.Entry // by rising Seq
	marks  api.Marks
}

// inOrder is the things, in their order.
func (has *state) inOrder() []api.Item {
	return slices.SortedFunc(maps.Values(has.things), func(a, b api.Item) int {
		return thing.Compare(a.ID, b.ID)
	})
}

func (has *state) entries() []api.Entry {
	return slices.Clone(has.outbox)
}

// base is the record of all there is.
func (has *state) base() api.Record {
	return api.Record{Kind: api.Base, Marks: has.marks, Items: has.inOrder(), Outbox: has.entries()}
}

// stateOf is what a Base tells.
func stateOf(base api.Record) state {
	has := state{things: map[api.ID]api.Item{}, outbox: base.Outbox, marks: base.Marks}
	for _, item := range base.Items {
		has.put(item)
	}
	return has
}

func (has *state) put(item api.Item) {
	has.things[item.ID] = item
}

// do does what a record tells. A call that has journalled it and a restart that reads it both come here, so that they end up with the same.
func (s *Shard) do(r api.Record) {
	switch r.Kind {
	case api.Base:
		s.has = stateOf(r)
	case api.Mint:
		s.has.put(r.Item)
		s.has.marks.Minted = r.Item.ID.Number
	case api.Destroy:
		delete(s.has.things, r.Item.ID)
	case api.Tick:
		s.drift()
	case api.Arrive:
		s.has.put(r.Item)
		s.has.marks.Seen = r.Seq
	case api.Acked:
		s.has.acked(r.Seq)
	}
}

// acked lets all entries up to seq leave the outbox.
func (has *state) acked(seq int) {
	has.marks.Acked = seq
	has.outbox = slices.DeleteFunc(has.outbox, func(entry api.Entry) bool {
		return entry.Seq <= seq
	})
}

// drift goes in order, since the outbox may have room for the first ones only.
func (s *Shard) drift() {
	for _, item := range s.has.inOrder() {
		s.driftOne(item)
	}
}

func (s *Shard) driftOne(item api.Item) {
	q := item.Place + item.Speed
	switch {
	case q < -api.Far || q > api.Far:
		item.Speed = -item.Speed
		s.has.put(item)
	case thing.Side(q) == s.number:
		item.Place = q
		s.has.put(item)
	case s.mayLeave():
		item.Place = q
		s.has.leave(item)
	}
}

func (s *Shard) mayLeave() bool {
	return len(s.has.outbox) < s.config.Outbox && s.has.marks.Sent < api.MaxNumber
}

// leave lets a thing go from the world to the outbox.
func (has *state) leave(item api.Item) {
	delete(has.things, item.ID)
	has.marks.Sent++
	has.outbox = append(has.outbox, api.Entry{Seq: has.marks.Sent, Item: item})
}
