package ferry

import (
	"math"
	"slices"
	"strings"
	"testing"

	"ferry/api"
	"ferry/wire"
)

func datagramOf(t *testing.T, r api.Record) string {
	t.Helper()
	s, e := wire.Encode(r)
	answers(t, "Encode", e, api.OK)
	return s
}

func crossOf(t *testing.T, seq int, x api.Item) string {
	t.Helper()
	return datagramOf(t, api.Record{Kind: api.Cross, Seq: seq, Item: x})
}

func ackOf(t *testing.T, seq int) string {
	t.Helper()
	return datagramOf(t, api.Record{Kind: api.Ack, Seq: seq})
}

func arriveOf(seq int, x api.Item) api.Record {
	return api.Record{Kind: api.Arrive, Seq: seq, Item: x}
}

// underWay: the datagrams under way to a shard.
func underWay(t *testing.T, p *Pair, shard int, want ...string) {
	t.Helper()
	if got, e := p.Flight(shard); !slices.Equal(got, want) || e != api.OK {
		t.Fatalf("P10, P13: Flight(%d) = %x, %d, want %x", shard, got, e, want)
	}
}

func sends(t *testing.T, p *Pair, shard int) {
	t.Helper()
	answers(t, "P10: Send", p.Send(shard), api.OK)
}

func delivers(t *testing.T, p *Pair, shard, k int, want api.Errno) {
	t.Helper()
	answers(t, "P10: Deliver", p.Deliver(shard, k), want)
}

func injects(t *testing.T, p *Pair, shard int, s string) {
	t.Helper()
	answers(t, "P10: Inject", p.Inject(shard, s), api.OK)
}

// again: a shard crashes and comes back.
func again(t *testing.T, p *Pair, shard int) {
	t.Helper()
	answers(t, "P7: Crash", p.Crash(shard, 0), api.OK)
	answers(t, "P12: Restart", p.Restart(shard), api.OK)
}

// left: the thing that stands in the outbox of shard 0 as this entry, once sendOff has put it there.
func left(k int) api.Item {
	return item(0, k, float32(k-1), float32(k))
}

// sendOff: entries 1 to n are in the outbox of shard 0.
func sendOff(t *testing.T, p *Pair, n int) {
	t.Helper()
	for k := 1; k <= n; k++ {
		mints(t, p, 0, -1, float32(k), k)
	}
	answers(t, "P9: Tick", p.Tick(0), api.OK)
	tells(t, p, 0, api.Marks{Generation: 1, Minted: n, Sent: n}, nil, lefts(1, n)...)
}

// lefts: the entries from the one to the other.
func lefts(from, to int) []api.Entry {
	var l []api.Entry
	for k := from; k <= to; k++ {
		l = append(l, api.Entry{Seq: k, Item: left(k)})
	}
	return l
}

// crosses: the datagrams of the entries from the one to the other.
func crosses(t *testing.T, from, to int) []string {
	t.Helper()
	var l []string
	for k := from; k <= to; k++ {
		l = append(l, crossOf(t, k, left(k)))
	}
	return l
}

func TestExamples3And4(t *testing.T) {
	for _, lost := range []bool{false, true} {
		p := roomy(t)
		mints(t, p, 0, -1, 2, 1)
		answers(t, "P9: Tick", p.Tick(0), api.OK)
		x := item(0, 1, 1, 2)
		tells(t, p, 0, api.Marks{Generation: 1, Minted: 1, Sent: 1}, nil, api.Entry{Seq: 1, Item: x})
		tells(t, p, 1, api.Marks{Generation: 1}, nil)
		sends(t, p, 0)
		underWay(t, p, 0)
		underWay(t, p, 1, "\x07\x00\x01\x00\x00\x01\x3f\x80\x00\x00\x40\x00\x00\x00"+crossOf(t, 1, x)[14:])
		delivers(t, p, 1, 0, api.OK)
		underWay(t, p, 1)
		tells(t, p, 1, api.Marks{Generation: 1, Seen: 1}, []api.Item{x})
		underWay(t, p, 0, ackOf(t, 1))
		if lost {
			answers(t, "P10: Drop", p.Drop(0, 0), api.OK)
			sends(t, p, 0)
			delivers(t, p, 1, 0, api.OK)
			tells(t, p, 1, api.Marks{Generation: 1, Seen: 1}, []api.Item{x})
			underWay(t, p, 0, ackOf(t, 1))
		}
		delivers(t, p, 0, 0, api.OK)
		underWay(t, p, 0)
		underWay(t, p, 1)
		tells(t, p, 0, api.Marks{Generation: 1, Minted: 1, Sent: 1, Acked: 1}, nil)
		tells(t, p, 1, api.Marks{Generation: 1, Seen: 1}, []api.Item{x})
		hasFiles(t, p, 0, journalOf(t, firstBase, mintOf(item(0, 1, -1, 2)), tick, api.Record{Kind: api.Acked, Seq: 1}), "")
		hasFiles(t, p, 1, journalOf(t, firstBase, arriveOf(1, x)), "")
	}
}

func TestSend(t *testing.T) {
	p := roomy(t)
	sends(t, p, 0)
	sends(t, p, 1)
	underWay(t, p, 0)
	underWay(t, p, 1)
	sendOff(t, p, 3)
	mints(t, p, 1, 1, -2, 1)
	answers(t, "P9: Tick", p.Tick(1), api.OK)
	files := both(t, p, 0)
	answers(t, "P7: Break", p.Break(0, 1, 0), api.OK) // no act is done
	sends(t, p, 0)
	underWay(t, p, 0)
	underWay(t, p, 1, crosses(t, 1, 3)...)
	sends(t, p, 0) // until they are acked
	underWay(t, p, 1, slices.Concat(crosses(t, 1, 3), crosses(t, 1, 3))...)
	sends(t, p, 1)
	underWay(t, p, 0, crossOf(t, 1, item(1, 1, -1, -2)))
	tells(t, p, 0, api.Marks{Generation: 1, Minted: 3, Sent: 3}, nil, lefts(1, 3)...)
	if both(t, p, 0) != files {
		t.Errorf("P10: a Send has written something")
	}
}

func TestSendOfWhatIsLeft(t *testing.T) {
	p := roomy(t)
	sendOff(t, p, 3)
	injects(t, p, 0, ackOf(t, 2))
	delivers(t, p, 0, 0, api.OK)
	sends(t, p, 0)
	underWay(t, p, 1, crosses(t, 3, 3)...)
	mints(t, p, 0, -1, 4, 4)
	answers(t, "P9: Tick", p.Tick(0), api.OK)
	sends(t, p, 0)
	underWay(t, p, 1, slices.Concat(crosses(t, 3, 3), crosses(t, 3, 3), []string{crossOf(t, 4, item(0, 4, 3, 4))})...)
}

func TestACrashLeavesWhatIsUnderWay(t *testing.T) {
	p := roomy(t)
	sendOff(t, p, 2)
	sends(t, p, 0)
	injects(t, p, 0, "some")
	for shard := range 2 {
		answers(t, "P7: Crash", p.Crash(shard, 0), api.OK)
	}
	underWay(t, p, 0, "some")
	underWay(t, p, 1, crosses(t, 1, 2)...)
	answers(t, "P1: Send", p.Send(0), api.ErrDown)
	answers(t, "P12: Restart", p.Restart(0), api.OK)
	sends(t, p, 0) // to a shard that is down
	underWay(t, p, 1, slices.Concat(crosses(t, 1, 2), crosses(t, 1, 2))...)
	answers(t, "P12: Restart", p.Restart(1), api.OK)
	underWay(t, p, 0, "some")
	underWay(t, p, 1, slices.Concat(crosses(t, 1, 2), crosses(t, 1, 2))...)
}

func TestNoSuchDatagram(t *testing.T) {
	for _, down := range []bool{false, true} {
		for _, n := range []int{0, 1, 3} {
			p := roomy(t)
			var want []string
			for k := range n {
				injects(t, p, 0, ackOf(t, k))
				want = append(want, ackOf(t, k))
			}
			for range 5 {
				injects(t, p, 1, "to the other one")
			}
			if down {
				answers(t, "P7: Crash", p.Crash(0, 0), api.OK)
			}
			for _, k := range []int{-1, n, n + 1, math.MinInt, math.MaxInt} {
				delivers(t, p, 0, k, api.ErrNone)
				answers(t, "P10: Drop", p.Drop(0, k), api.ErrNone)
				answers(t, "P10: Double", p.Double(0, k), api.ErrNone)
				answers(t, "P10: Spoil", p.Spoil(0, k, 0), api.ErrNone)
			}
			underWay(t, p, 0, want...)
		}
	}
}

func TestDropDoubleSpoil(t *testing.T) {
	for shard := range 2 {
		p := roomy(t)
		for _, s := range []string{"anna", "berta", "carla"} {
			injects(t, p, shard, s)
			injects(t, p, 1-shard, s)
		}
		answers(t, "P10: Double", p.Double(shard, 1), api.OK)
		underWay(t, p, shard, "anna", "berta", "carla", "berta")
		answers(t, "P10: Drop", p.Drop(shard, 1), api.OK)
		underWay(t, p, shard, "anna", "carla", "berta")
		answers(t, "P10: Spoil", p.Spoil(shard, 1, 2), api.OK)
		underWay(t, p, shard, "anna", "ca", "berta")
		answers(t, "P10: Spoil", p.Spoil(shard, 0, -1), api.OK)
		answers(t, "P10: Spoil", p.Spoil(shard, 1, 3), api.OK)
		answers(t, "P10: Spoil", p.Spoil(shard, 2, 5), api.OK)
		underWay(t, p, shard, "", "ca", "berta")
		answers(t, "P10: Drop", p.Drop(shard, 2), api.OK)
		answers(t, "P10: Drop", p.Drop(shard, 0), api.OK)
		underWay(t, p, shard, "ca")
		underWay(t, p, 1-shard, "anna", "berta", "carla")
	}
}

func TestInject(t *testing.T) {
	most, tooMany := strings.Repeat("\xff", 100), strings.Repeat("x", 101)
	p := roomy(t)
	for shard := range 2 {
		injects(t, p, shard, "")
		injects(t, p, shard, most)
		answers(t, "P10: Inject", p.Inject(shard, tooMany), api.ErrArg)
		answers(t, "P10: Inject", p.Inject(shard, strings.Repeat("long", 1000)), api.ErrArg)
		injects(t, p, shard, "\x00")
		underWay(t, p, shard, "", most, "\x00")
	}
}

func TestAFullFlight(t *testing.T) {
	p := roomy(t)
	sendOff(t, p, 4)
	var want []string
	for range 30 {
		injects(t, p, 1, "old")
		want = append(want, "old")
	}
	sends(t, p, 0)
	want = append(want, crosses(t, 1, 2)...)
	underWay(t, p, 1, want...)
	sends(t, p, 0)
	injects(t, p, 1, "new")
	answers(t, "P10: Double", p.Double(1, 31), api.OK)
	answers(t, "P10: Inject", p.Inject(1, strings.Repeat("x", 101)), api.ErrArg)
	underWay(t, p, 1, want...)
	injects(t, p, 0, "to the other one")
	underWay(t, p, 0, "to the other one")
	delivers(t, p, 1, 0, api.OK)
	injects(t, p, 1, "new")
	underWay(t, p, 1, append(want[1:], "new")...)
}

// TestAnAckThatIsLostAtOnce: the thing comes, though the flight of the Ack is full.
func TestAnAckThatIsLostAtOnce(t *testing.T) {
	p := roomy(t)
	sendOff(t, p, 2)
	sends(t, p, 0)
	var want []string
	for range 32 {
		injects(t, p, 0, "old")
		want = append(want, "old")
	}
	delivers(t, p, 1, 0, api.OK)
	underWay(t, p, 0, want...)
	tells(t, p, 1, api.Marks{Generation: 1, Seen: 1}, []api.Item{left(1)})
	answers(t, "P10: Drop", p.Drop(0, 5), api.OK)
	delivers(t, p, 1, 0, api.OK)
	underWay(t, p, 0, append(want[:31], ackOf(t, 2))...)
}

func TestCrossesOutOfOrder(t *testing.T) {
	p := roomy(t)
	sendOff(t, p, 3)
	sends(t, p, 0)
	delivers(t, p, 1, 2, api.OK) // 3
	delivers(t, p, 1, 1, api.OK) // 2
	tells(t, p, 1, api.Marks{Generation: 1}, nil)
	underWay(t, p, 0)
	delivers(t, p, 1, 0, api.OK) // 1
	sends(t, p, 0)
	delivers(t, p, 1, 1, api.OK) // 2
	delivers(t, p, 1, 0, api.OK) // 1 once more
	tells(t, p, 1, api.Marks{Generation: 1, Seen: 2}, []api.Item{left(1), left(2)})
	underWay(t, p, 0, ackOf(t, 1), ackOf(t, 2), ackOf(t, 2))
	delivers(t, p, 0, 2, api.OK)
	tells(t, p, 0, api.Marks{Generation: 1, Minted: 3, Sent: 3, Acked: 2}, nil, lefts(3, 3)...)
	delivers(t, p, 0, 0, api.OK)
	delivers(t, p, 0, 0, api.OK)
	tells(t, p, 0, api.Marks{Generation: 1, Minted: 3, Sent: 3, Acked: 2}, nil, lefts(3, 3)...)
	delivers(t, p, 1, 0, api.OK) // 3
	delivers(t, p, 0, 0, api.OK)
	tells(t, p, 0, api.Marks{Generation: 1, Minted: 3, Sent: 3, Acked: 3}, nil)
	hasFiles(t, p, 1, journalOf(t, firstBase, arriveOf(1, left(1)), arriveOf(2, left(2)), arriveOf(3, left(3))), "")
	again(t, p, 0)
	again(t, p, 1)
	tells(t, p, 0, api.Marks{Generation: 1, Minted: 3, Sent: 3, Acked: 3}, nil)
	tells(t, p, 1, api.Marks{Generation: 1, Seen: 3}, []api.Item{left(1), left(2), left(3)})
}

// TestCrossesThatMayNotCome: shard 1 has minted two, and has things of its own and of the peer.
func TestCrossesThatMayNotCome(t *testing.T) {
	own, come := item(1, 2, 5, 0), left(1)
	marks := api.Marks{Generation: 1, Minted: 2, Seen: 1}
	for _, c := range []struct {
		items int
		seq   int
		thing api.Item
		ack   int
	}{
		{3, 3, item(0, 9, 1, 0), 0},
		{3, api.MaxNumber, item(0, 9, 1, 0), 0},
		{3, 2, item(0, 9, -math.SmallestNonzeroFloat32, 0), 0},
		{3, 2, item(1, 3, 1, 0), 0},
		{3, 2, item(1, api.MaxNumber, 1, 0), 0},
		{3, 2, item(1, 2, 7, 0), 0},
		{3, 2, item(0, 1, 7, 0), 0},
		{2, 2, item(0, 9, 1, 0), 0},
		{3, 1, item(0, 9, 1, 0), 1},
		{2, 1, item(1, 3, -1, 0), 1},
		{3, 2, item(0, 9, minus, minus), 2},
		{3, 2, item(0, api.MaxNumber, api.Far, -api.Far), 2},
		{3, 2, item(1, 1, 1, 0), 2}, // minted here, and destroyed
	} {
		p := fresh(t, c.items, 1, 1000)
		sendOff(t, p, 1)
		mints(t, p, 1, 5, 0, 1)
		mints(t, p, 1, 5, 0, 2)
		answers(t, "P8: Destroy", p.Destroy(1, api.ID{Shard: 1, Number: 1}), api.OK)
		injects(t, p, 1, crossOf(t, 1, come))
		delivers(t, p, 1, 0, api.OK)
		delivers(t, p, 0, 0, api.OK)
		journal := both(t, p, 1)[0]
		injects(t, p, 1, crossOf(t, c.seq, c.thing))
		if c.ack < 2 {
			answers(t, "P7: Break", p.Break(1, 1, 0), api.OK) // no act is done
		}
		delivers(t, p, 1, 0, api.OK)
		underWay(t, p, 1)
		if c.ack > 0 {
			underWay(t, p, 0, ackOf(t, c.ack))
		} else {
			underWay(t, p, 0)
		}
		if c.ack < 2 {
			tells(t, p, 1, marks, []api.Item{come, own})
			hasFiles(t, p, 1, journal, "")
			continue
		}
		hasFiles(t, p, 1, journal+journalOf(t, arriveOf(2, c.thing)), "")
		world := []api.Item{come, c.thing, own} // it comes between them, whichever it is
		tells(t, p, 1, api.Marks{Generation: 1, Minted: 2, Seen: 2}, world)
	}
}

func TestARoomThatIsFreeAgain(t *testing.T) {
	p := fresh(t, 1, 2, 1000)
	mints(t, p, 0, -1, 1, 1)
	answers(t, "P9: Tick", p.Tick(0), api.OK)
	mints(t, p, 1, 1, 0, 1)
	sends(t, p, 0)
	delivers(t, p, 1, 0, api.OK)
	tells(t, p, 1, api.Marks{Generation: 1, Minted: 1}, []api.Item{item(1, 1, 1, 0)})
	underWay(t, p, 0)
	answers(t, "P8: Destroy", p.Destroy(1, api.ID{Shard: 1, Number: 1}), api.OK)
	sends(t, p, 0)
	delivers(t, p, 1, 0, api.OK)
	tells(t, p, 1, api.Marks{Generation: 1, Minted: 1, Seen: 1}, []api.Item{left(1)})
	mintsNone(t, p, 1, 1, 0, api.ErrQuota) // what has come counts
}

func TestAcks(t *testing.T) {
	for _, c := range []struct{ seq, acked int }{{0, 1}, {1, 1}, {2, 2}, {3, 3}, {4, 4}, {5, 1}, {api.MaxNumber, 1}} {
		p := roomy(t)
		sendOff(t, p, 4)
		injects(t, p, 0, ackOf(t, 1))
		delivers(t, p, 0, 0, api.OK)
		journal := both(t, p, 0)[0]
		if c.seq == c.acked && c.seq > 1 {
			journal += journalOf(t, api.Record{Kind: api.Acked, Seq: c.seq})
		} else {
			answers(t, "P7: Break", p.Break(0, 1, 0), api.OK) // no act is done
		}
		injects(t, p, 0, ackOf(t, c.seq))
		delivers(t, p, 0, 0, api.OK)
		hasFiles(t, p, 0, journal, "")
		underWay(t, p, 0)
		underWay(t, p, 1)
		for range 2 {
			tells(t, p, 0, api.Marks{Generation: 1, Minted: 4, Sent: 4, Acked: c.acked}, nil, lefts(c.acked+1, 4)...)
			again(t, p, 0)
		}
	}
}

// TestAnAckMakesRoom: in an outbox that was full.
func TestAnAckMakesRoom(t *testing.T) {
	p := fresh(t, 4, 1, 1000)
	mints(t, p, 0, -1, 1, 1)
	mints(t, p, 0, -1, 2, 2)
	answers(t, "P9: Tick", p.Tick(0), api.OK)
	sends(t, p, 0)
	delivers(t, p, 1, 0, api.OK)
	answers(t, "P9: Tick", p.Tick(0), api.OK)
	tells(t, p, 0, api.Marks{Generation: 1, Minted: 2, Sent: 1}, []api.Item{item(0, 2, -1, 2)}, lefts(1, 1)...)
	delivers(t, p, 0, 0, api.OK)
	answers(t, "P9: Tick", p.Tick(0), api.OK)
	for range 2 {
		tells(t, p, 0, api.Marks{Generation: 1, Minted: 2, Sent: 2, Acked: 1}, nil, lefts(2, 2)...)
		again(t, p, 0)
	}
}

func TestDeliverOfWhatIsNoDatagram(t *testing.T) {
	whole := crossOf(t, 1, item(1, 7, -1, 1))
	datagrams := []string{
		"", "any bytes", whole + "\x00", strings.Repeat("\x08", 100), strings.TrimPrefix(whole, "\x07"),
		datagramOf(t, mintOf(item(0, 2, -1, 0))), datagramOf(t, api.Record{Kind: api.Destroy, Item: item(0, 1, 0, 0)}),
		datagramOf(t, tick), datagramOf(t, arriveOf(1, item(1, 7, -1, 1))), datagramOf(t, api.Record{Kind: api.Acked, Seq: 1}),
		datagramOf(t, firstBase),
	}
	for n := range whole {
		datagrams = append(datagrams, whole[:n])
	}
	for n := range ackOf(t, 1) {
		datagrams = append(datagrams, ackOf(t, 1)[:n])
	}
	p := roomy(t)
	sendOff(t, p, 1)
	files := both(t, p, 0)
	answers(t, "P7: Break", p.Break(0, 1, 0), api.OK) // no act is done
	for _, d := range datagrams {
		injects(t, p, 0, d)
		underWay(t, p, 0, d)
		delivers(t, p, 0, 0, api.OK)
		underWay(t, p, 0)
		underWay(t, p, 1)
		tells(t, p, 0, api.Marks{Generation: 1, Minted: 1, Sent: 1}, nil, lefts(1, 1)...)
		if both(t, p, 0) != files {
			t.Fatalf("P10: Deliver of %x has written something", d)
		}
	}
}

func TestDeliverOfWhatIsSpoilt(t *testing.T) {
	p := roomy(t)
	sendOff(t, p, 1)
	sends(t, p, 0)
	answers(t, "P10: Double", p.Double(1, 0), api.OK)
	answers(t, "P10: Spoil", p.Spoil(1, 0, 15), api.OK)
	answers(t, "P10: Spoil", p.Spoil(1, 1, 16), api.OK)
	delivers(t, p, 1, 0, api.OK)
	tells(t, p, 1, api.Marks{Generation: 1}, nil)
	underWay(t, p, 0)
	delivers(t, p, 1, 0, api.OK)
	tells(t, p, 1, api.Marks{Generation: 1, Seen: 1}, []api.Item{left(1)})
	answers(t, "P10: Spoil", p.Spoil(0, 0, 4), api.OK)
	delivers(t, p, 0, 0, api.OK)
	tells(t, p, 0, api.Marks{Generation: 1, Minted: 1, Sent: 1}, nil, lefts(1, 1)...)
}

func TestDeliverToAShardThatIsDown(t *testing.T) {
	p := roomy(t)
	sendOff(t, p, 2)
	sends(t, p, 0)
	injects(t, p, 0, ackOf(t, 2))
	files := [][2]string{both(t, p, 0), both(t, p, 1)}
	for shard := range 2 {
		answers(t, "P7: Crash", p.Crash(shard, 0), api.OK)
		delivers(t, p, shard, 0, api.OK)
	}
	underWay(t, p, 0)
	underWay(t, p, 1, crosses(t, 2, 2)...)
	for shard := range 2 {
		answers(t, "P12: Restart", p.Restart(shard), api.OK)
		hasFiles(t, p, shard, files[shard][0], files[shard][1])
	}
	tells(t, p, 0, api.Marks{Generation: 1, Minted: 2, Sent: 2}, nil, lefts(1, 2)...)
	tells(t, p, 1, api.Marks{Generation: 1}, nil)
}

// TestDeliverWithAFullJournal: a record fits if the file then has just as many bytes as a journal may have, and not with one more.
func TestDeliverWithAFullJournal(t *testing.T) {
	const base, mint, tick, arrive, acked = 17, 16, 5, 18, 7
	for _, room := range []int{-1, 0, 1} {
		want := api.OK
		if room < 0 {
			want = api.ErrFull
		}
		p := fresh(t, 1, 1, base+arrive+room)
		injects(t, p, 1, "ahead of it")
		injects(t, p, 1, crossOf(t, 1, left(1)))
		if want != api.OK {
			answers(t, "P7: Break", p.Break(1, 1, 100), api.OK) // no act is done
		}
		delivers(t, p, 1, 1, want)
		underWay(t, p, 1, "ahead of it")
		if want == api.OK {
			tells(t, p, 1, api.Marks{Generation: 1, Seen: 1}, []api.Item{left(1)})
			underWay(t, p, 0, ackOf(t, 1))
			injects(t, p, 1, crossOf(t, 1, left(1)))
			delivers(t, p, 1, 1, api.OK) // an Ack once more asks for no room
			underWay(t, p, 0, ackOf(t, 1), ackOf(t, 1))
		} else {
			tells(t, p, 1, api.Marks{Generation: 1}, nil)
			underWay(t, p, 0)
			hasFiles(t, p, 1, journalOf(t, firstBase), "")
		}

		p = fresh(t, 1, 1, base+mint+tick+acked+room)
		sendOff(t, p, 1)
		files := both(t, p, 0)
		injects(t, p, 0, ackOf(t, 1))
		if want != api.OK {
			answers(t, "P7: Break", p.Break(0, 1, 100), api.OK)
		}
		delivers(t, p, 0, 0, want)
		underWay(t, p, 0)
		underWay(t, p, 1)
		if want == api.OK {
			tells(t, p, 0, api.Marks{Generation: 1, Minted: 1, Sent: 1, Acked: 1}, nil)
		} else {
			tells(t, p, 0, api.Marks{Generation: 1, Minted: 1, Sent: 1}, nil, lefts(1, 1)...)
			hasFiles(t, p, 0, files[0], files[1])
		}
		injects(t, p, 0, ackOf(t, 2))
		delivers(t, p, 0, 0, api.OK) // what is passed over asks for no room
	}
}

// TestWhatIsPassedOverIsNamedAheadOfErrFull: while a journal has no room at all.
func TestWhatIsPassedOverIsNamedAheadOfErrFull(t *testing.T) {
	p := fresh(t, 1, 1, 1)
	for _, d := range []string{crossOf(t, 2, left(1)), crossOf(t, 1, item(0, 1, -1, 0)), crossOf(t, 1, item(1, 1, 1, 0)), ackOf(t, 0), ackOf(t, 1)} {
		injects(t, p, 1, d)
		delivers(t, p, 1, 0, api.OK)
		underWay(t, p, 0)
	}
	injects(t, p, 1, crossOf(t, 1, left(1)))
	delivers(t, p, 1, 0, api.ErrFull)
	underWay(t, p, 0)
}

// TestBreakOfADeliver: its two acts, and what stays of the record.
func TestBreakOfADeliver(t *testing.T) {
	for act := 1; act <= 2; act++ {
		for _, keep := range []int{math.MinInt, -1, 0, 1, 6, 7, 17, 18, 19, math.MaxInt} {
			p := roomy(t)
			sendOff(t, p, 2)
			sends(t, p, 0)
			answers(t, "P7: Break", p.Break(1, act, keep), api.OK)
			delivers(t, p, 1, 0, api.ErrDown)
			underWay(t, p, 0)
			underWay(t, p, 1, crosses(t, 2, 2)...)
			record := journalOf(t, arriveOf(1, left(1)))
			hasFiles(t, p, 1, journalOf(t, firstBase)+record[:min(max(keep, 0), len(record))], "")
			answers(t, "P1: Tick", p.Tick(1), api.ErrDown)
			answers(t, "P12: Restart", p.Restart(1), api.OK)
			if keep >= len(record) {
				tells(t, p, 1, api.Marks{Generation: 1, Seen: 1}, []api.Item{left(1)})
			} else {
				tells(t, p, 1, api.Marks{Generation: 1}, nil)
			}
			underWay(t, p, 0)
			sends(t, p, 0)
			delivers(t, p, 1, 1, api.OK)
			tells(t, p, 1, api.Marks{Generation: 1, Seen: 1}, []api.Item{left(1)})
			underWay(t, p, 0, ackOf(t, 1))

			answers(t, "P7: Break", p.Break(0, act, keep), api.OK)
			delivers(t, p, 0, 0, api.ErrDown)
			underWay(t, p, 0)
			answers(t, "P12: Restart", p.Restart(0), api.OK)
			if keep >= len(journalOf(t, api.Record{Kind: api.Acked, Seq: 1})) {
				tells(t, p, 0, api.Marks{Generation: 1, Minted: 2, Sent: 2, Acked: 1}, nil, lefts(2, 2)...)
			} else {
				tells(t, p, 0, api.Marks{Generation: 1, Minted: 2, Sent: 2}, nil, lefts(1, 2)...)
			}
		}
	}
}

// TestThereAndBack: a thing comes back while the Ack of its going is still to come, so that its ID stands in the world and in the outbox, and then twice in that.
func TestThereAndBack(t *testing.T) {
	p := roomy(t)
	mints(t, p, 0, -1, 600, 1)
	answers(t, "P9: Tick", p.Tick(0), api.OK)
	sends(t, p, 0)
	delivers(t, p, 1, 0, api.OK)
	answers(t, "P10: Drop", p.Drop(0, 0), api.OK)
	for range 2 { // it turns, and leaves
		answers(t, "P9: Tick", p.Tick(1), api.OK)
	}
	back := item(0, 1, -1, -600)
	tells(t, p, 1, api.Marks{Generation: 1, Sent: 1, Seen: 1}, nil, api.Entry{Seq: 1, Item: back})
	sends(t, p, 1)
	delivers(t, p, 0, 0, api.OK)
	underWay(t, p, 1, ackOf(t, 1))
	first, second := api.Entry{Seq: 1, Item: item(0, 1, 599, 600)}, api.Entry{Seq: 2, Item: item(0, 1, 599, 600)}
	marks := api.Marks{Generation: 1, Minted: 1, Sent: 1, Seen: 1}
	tells(t, p, 0, marks, []api.Item{back}, first)
	for range 2 {
		again(t, p, 0)
		tells(t, p, 0, marks, []api.Item{back}, first)
		answers(t, "P11: Snapshot", p.Snapshot(0), api.OK)
		marks.Generation++
	}
	sends(t, p, 0)
	delivers(t, p, 1, 1, api.OK) // it was seen: though the thing is there no more, it does not come again
	tells(t, p, 1, api.Marks{Generation: 1, Sent: 1, Seen: 1}, nil, api.Entry{Seq: 1, Item: back})
	for range 4 { // it drifts on, turns, comes back, and leaves
		answers(t, "P9: Tick", p.Tick(0), api.OK)
	}
	marks.Sent = 2
	for range 2 {
		tells(t, p, 0, marks, nil, first, second)
		answers(t, "P11: Snapshot", p.Snapshot(0), api.OK)
		marks.Generation++
		again(t, p, 0)
	}
	delivers(t, p, 0, 0, api.OK)
	marks.Acked = 1
	tells(t, p, 0, marks, nil, second)
}

func TestFlightsAreNewMemory(t *testing.T) {
	p := roomy(t)
	for _, s := range []string{"anna", "berta", "carla"} {
		injects(t, p, 0, s)
	}
	early, _ := p.Flight(0)
	late, _ := p.Flight(0)
	late = late[:cap(late)]
	for i := range late {
		late[i] = "scribble"
	}
	underWay(t, p, 0, "anna", "berta", "carla")
	injects(t, p, 0, "doris")
	answers(t, "P10: Drop", p.Drop(0, 0), api.OK)
	answers(t, "P10: Spoil", p.Spoil(0, 0, 1), api.OK)
	if !slices.Equal(early, []string{"anna", "berta", "carla"}) {
		t.Errorf("P2: an answer has become %q", early)
	}
	underWay(t, p, 0, "b", "carla", "doris")
}

func TestFlightsOfPairsAreApart(t *testing.T) {
	p, q := roomy(t), roomy(t)
	sendOff(t, p, 1)
	sends(t, p, 0)
	injects(t, p, 0, "some")
	for shard := range 2 {
		underWay(t, q, shard)
		delivers(t, q, shard, 0, api.ErrNone)
	}
	underWay(t, p, 0, "some")
	underWay(t, p, 1, crosses(t, 1, 1)...)
}
