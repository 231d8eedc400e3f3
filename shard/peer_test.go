package shard

import (
	"slices"
	"testing"

	"ferry/api"
)

func crossOf(seq int, x api.Item) string {
	return encoded(api.Record{Kind: api.Cross, Seq: seq, Item: x})
}

func ackOf(seq int) string {
	return encoded(api.Record{Kind: api.Ack, Seq: seq})
}

func hears(t *testing.T, s *Shard, datagram, reply string, want api.Errno) {
	t.Helper()
	if got, e := s.Hear(datagram); got != reply || e != want {
		t.Errorf("P10: Hear(%x) = %x, %d, want %x, %d", datagram, got, e, reply, want)
	}
}

func TestCrosses(t *testing.T) {
	b := base()
	s := restarted(t, 0, roomy, journalOf(b), "")
	want := []string{crossOf(3, item(0, 2, 1, 1)), crossOf(6, item(1, 1, 2, 2)), crossOf(9, item(0, 4, 3, 3))}
	if got := s.Crosses(); !slices.Equal(got, want) {
		t.Errorf("P10: Crosses = %x, want %x", got, want)
	}
	has(t, s, b.Marks, b.Items, b.Outbox)
	if got := New(1, roomy).Crosses(); len(got) != 0 {
		t.Errorf("P10: Crosses of an empty outbox = %x", got)
	}
}

// TestWhichCrossArrives: the shard of base() has seen 4 and minted 5.
func TestWhichCrossArrives(t *testing.T) {
	b := base()
	narrow := roomy
	narrow.Items = len(b.Items)
	for _, c := range []struct {
		config  api.Config
		seq     int
		thing   api.Item
		arrives bool
		reply   string
	}{
		{roomy, 5, item(1, 9, -1, 1), true, ackOf(5)},
		{roomy, 5, item(1, api.MaxNumber, -api.Far, -api.Far), true, ackOf(5)},
		{roomy, 5, item(0, 5, -1, 0), true, ackOf(5)}, // of its own, the last that was minted
		{roomy, 5, item(0, 2, -1, 0), true, ackOf(5)}, // that is in its outbox still
		{roomy, 6, item(1, 9, -1, 1), false, ""},
		{roomy, api.MaxNumber, item(1, 9, -1, 1), false, ""},
		{roomy, 5, item(1, 9, 0, -1), false, ""},
		{roomy, 5, item(1, 9, api.Far, -1), false, ""},
		{roomy, 5, item(0, 6, -1, 1), false, ""},
		{roomy, 5, item(0, api.MaxNumber, -1, 1), false, ""},
		{roomy, 5, item(0, 3, -7, -1), false, ""},
		{roomy, 5, item(1, 2, -1, 1), false, ""},
		{narrow, 5, item(1, 9, -1, 1), false, ""},
		{roomy, 4, item(1, 9, -1, 1), false, ackOf(4)},
		{roomy, 1, item(1, 9, -1, 1), false, ackOf(4)},
		{roomy, 4, item(0, 6, 1, 1), false, ackOf(4)}, // seen: whatever it has
		{narrow, 4, item(0, 3, 1, 1), false, ackOf(4)},
	} {
		s := restarted(t, 0, c.config, journalOf(b), "")
		if !c.arrives {
			s.Break(1, 0) // no act is done
		}
		hears(t, s, crossOf(c.seq, c.thing), c.reply, api.OK)
		if !c.arrives {
			has(t, s, b.Marks, b.Items, b.Outbox)
			hasFiles(t, s, journalOf(b), "")
			continue
		}
		marks := b.Marks
		marks.Seen = c.seq
		want := New(0, roomy)
		want.has = stateOf(b)
		want.has.put(c.thing)
		has(t, s, marks, want.World(), b.Outbox)
		hasFiles(t, s, journalOf(b, api.Record{Kind: api.Arrive, Seq: c.seq, Item: c.thing}), "")
	}
}

// TestWhichAckCounts: the shard of base() has sent 9, of which 2 are acked.
func TestWhichAckCounts(t *testing.T) {
	b := base()
	for seq, left := range map[int]int{0: -1, 1: -1, 2: -1, 3: 2, 4: 2, 5: 2, 6: 1, 8: 1, 9: 0, 10: -1, api.MaxNumber: -1} {
		s := restarted(t, 0, roomy, journalOf(b), "")
		if left < 0 {
			s.Break(1, 0) // no act is done
			hears(t, s, ackOf(seq), "", api.OK)
			has(t, s, b.Marks, b.Items, b.Outbox)
			hasFiles(t, s, journalOf(b), "")
			continue
		}
		hears(t, s, ackOf(seq), "", api.OK)
		marks := b.Marks
		marks.Acked = seq
		has(t, s, marks, b.Items, b.Outbox[len(b.Outbox)-left:])
		hasFiles(t, s, journalOf(b, api.Record{Kind: api.Acked, Seq: seq}), "")
	}
}

func TestTheLastCrossAndTheLastAck(t *testing.T) {
	const last = api.MaxNumber
	b := api.Record{
		Kind:   api.Base,
		Marks:  api.Marks{Generation: 1, Sent: last, Acked: last - 1, Seen: last - 1},
		Outbox: []api.Entry{{Seq: last, Item: item(1, 7, -1, -1)}},
	}
	s := restarted(t, 1, roomy, journalOf(b), "")
	hears(t, s, crossOf(last, item(0, 7, 1, 0)), ackOf(last), api.OK)
	hears(t, s, crossOf(last, item(0, 8, 1, 0)), ackOf(last), api.OK)
	hears(t, s, crossOf(1, item(0, 8, 1, 0)), ackOf(last), api.OK)
	has(t, s, api.Marks{Generation: 1, Sent: last, Acked: last - 1, Seen: last}, []api.Item{item(0, 7, 1, 0)}, b.Outbox)
	hears(t, s, ackOf(last), "", api.OK)
	has(t, s, api.Marks{Generation: 1, Sent: last, Acked: last, Seen: last}, []api.Item{item(0, 7, 1, 0)}, nil)
}

func TestWhatIsNoDatagramIsPassedOver(t *testing.T) {
	b := base()
	whole := crossOf(5, item(1, 9, -1, 1))
	datagrams := []string{
		"", "\x07", "\x08", "any bytes", whole + "\x00", whole[:len(whole)-1], whole[1:], ackOf(3)[:4], ackOf(3) + ackOf(3), journalOf(b),
		framed(api.Record{Kind: api.Ack, Seq: 3}), // behind its length
		encoded(api.Record{Kind: api.Mint, Item: item(0, 6, -1, 0)}),
		encoded(api.Record{Kind: api.Destroy, Item: item(0, 1, 0, 0)}),
		encoded(api.Record{Kind: api.Tick}),
		encoded(api.Record{Kind: api.Arrive, Seq: 5, Item: item(1, 9, -1, 1)}),
		encoded(api.Record{Kind: api.Acked, Seq: 3}),
		encoded(api.Record{Kind: api.Base, Marks: api.Marks{Generation: 9}}),
	}
	for i := range whole {
		spoilt := []byte(whole)
		spoilt[i] ^= 1
		datagrams = append(datagrams, string(spoilt), whole[:i])
	}
	for _, d := range datagrams {
		s := restarted(t, 0, roomy, journalOf(b), "")
		s.Break(1, 0) // no act is done
		hears(t, s, d, "", api.OK)
		has(t, s, b.Marks, b.Items, b.Outbox)
		hasFiles(t, s, journalOf(b), "")
	}
}
