package shard

import (
	"ferry/api"
	"ferry/thing"
	"ferry/wire"
)

// Crosses is the datagrams for the peer: of each entry of the outbox a Cross, by rising Seq (P10).
func (s *Shard) Crosses() []string {
	var crosses []string
	for _, entry := range s.has.outbox {
		crosses = append(crosses, encoded(api.Record{Kind: api.Cross, Seq: entry.Seq, Item: entry.Item}))
	}
	return crosses
}

// Hear takes in a datagram, and answers what goes back to the peer: nothing, if that is empty (P10). Bytes that are no record have no kind, and are passed over like records that are no datagrams.
func (s *Shard) Hear(datagram string) (string, api.Errno) {
	r, _ := wire.Decode(datagram)
	switch r.Kind {
	case api.Cross:
		return s.hearCross(r)
	case api.Ack:
		return "", s.hearAck(r.Seq)
	}
	return "", api.OK
}

// hearCross answers one that was seen too, since the Ack of that time may have been lost.
func (s *Shard) hearCross(r api.Record) (string, api.Errno) {
	seen := s.has.marks.Seen
	if r.Seq <= seen {
		return s.ack(), api.OK
	}
	if r.Seq > seen+1 || !s.mayArrive(r.Item) {
		return "", api.OK
	}
	e := s.journal(api.Record{Kind: api.Arrive, Seq: r.Seq, Item: r.Item})
	if e != api.OK {
		return "", e
	}
	return s.ack(), api.OK
}

func (s *Shard) ack() string {
	return encoded(api.Record{Kind: api.Ack, Seq: s.has.marks.Seen})
}

// mayArrive keeps out what this shard could not have been sent, and what it has no room for. A thing in the outbox may come: it has been over there, and the Ack of that is still to come.
func (s *Shard) mayArrive(item api.Item) bool {
	_, there := s.has.things[item.ID]
	unminted := item.ID.Shard == s.number && item.ID.Number > s.has.marks.Minted
	return thing.Side(item.Place) == s.number && !unminted && !there && !s.full()
}

func (s *Shard) hearAck(seq int) api.Errno {
	if seq <= s.has.marks.Acked || seq > s.has.marks.Sent {
		return api.OK
	}
	return s.journal(api.Record{Kind: api.Acked, Seq: seq})
}
