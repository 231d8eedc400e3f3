package shard

import (
	"math"
	"reflect"
	"strings"
	"testing"

	"ferry/api"
	"ferry/disk"
)

func item(shard, number int, place, speed float32) api.Item {
	return api.Item{ID: api.ID{Shard: shard, Number: number}, Place: place, Speed: speed}
}

var roomy = api.Config{Items: api.MaxItems, Outbox: api.MaxOutbox, Journal: api.MaxJournal}

func journalOf(records ...api.Record) string {
	s := ""
	for _, r := range records {
		s += framed(r)
	}
	return s
}

// restarted: the shard that these two files tell of.
func restarted(t *testing.T, number int, c api.Config, first, second string) *Shard {
	t.Helper()
	d := disk.New(first)
	d.Append(1, second)
	d.Sync(1)
	s := &Shard{number: number, config: c, disk: d}
	if e := s.Restart(); e != api.OK || !s.Up() {
		t.Fatalf("P12: Restart = %d, up: %v", e, s.Up())
	}
	return s
}

func has(t *testing.T, s *Shard, marks api.Marks, world []api.Item, outbox []api.Entry) {
	t.Helper()
	if got := s.Marks(); got != marks {
		t.Errorf("marks: %+v, want %+v", got, marks)
	}
	if got := s.World(); len(got)+len(world) > 0 && !reflect.DeepEqual(got, world) {
		t.Errorf("world: %+v, want %+v", got, world)
	}
	if got := s.Outbox(); len(got)+len(outbox) > 0 && !reflect.DeepEqual(got, outbox) {
		t.Errorf("outbox: %+v, want %+v", got, outbox)
	}
}

func hasFiles(t *testing.T, s *Shard, want ...string) {
	t.Helper()
	for n, w := range want {
		if got, e := s.File(n); got != w || e != api.OK {
			t.Errorf("file %d: %x, %d, want %x", n, got, e, w)
		}
	}
}

// base: a Base with things from both shards and entries that are not numbered without gaps.
func base() api.Record {
	return api.Record{
		Kind:   api.Base,
		Marks:  api.Marks{Generation: 7, Minted: 5, Sent: 9, Acked: 2, Seen: 4},
		Items:  []api.Item{item(0, 1, -8, 1), item(0, 3, -7, -1), item(1, 2, -6, 0.5)},
		Outbox: []api.Entry{{Seq: 3, Item: item(0, 2, 1, 1)}, {Seq: 6, Item: item(1, 1, 2, 2)}, {Seq: 9, Item: item(0, 4, 3, 3)}},
	}
}

func TestARestartTellsWhatTheBaseTells(t *testing.T) {
	b := base()
	s := restarted(t, 0, roomy, journalOf(b), "")
	has(t, s, b.Marks, b.Items, b.Outbox)
	hasFiles(t, s, journalOf(b), "")
}

func TestARestartDoesWhatEachRecordTells(t *testing.T) {
	b := base()
	for _, c := range []struct {
		records []api.Record
		want    api.Record
	}{
		{[]api.Record{{Kind: api.Mint, Item: item(0, 6, -5, 4)}}, api.Record{
			Marks: api.Marks{Generation: 7, Minted: 6, Sent: 9, Acked: 2, Seen: 4},
			Items: []api.Item{b.Items[0], b.Items[1], item(0, 6, -5, 4), b.Items[2]}, Outbox: b.Outbox}},
		{[]api.Record{{Kind: api.Destroy, Item: item(0, 3, 0, 0)}}, api.Record{
			Marks: b.Marks, Items: []api.Item{b.Items[0], b.Items[2]}, Outbox: b.Outbox}},
		{[]api.Record{{Kind: api.Tick}, {Kind: api.Tick}}, api.Record{
			Marks: b.Marks, Items: []api.Item{item(0, 1, -6, 1), item(0, 3, -9, -1), item(1, 2, -5, 0.5)}, Outbox: b.Outbox}},
		{[]api.Record{{Kind: api.Arrive, Seq: 5, Item: item(1, 1, -2, -2)}}, api.Record{
			Marks: api.Marks{Generation: 7, Minted: 5, Sent: 9, Acked: 2, Seen: 5},
			Items: []api.Item{b.Items[0], b.Items[1], item(1, 1, -2, -2), b.Items[2]}, Outbox: b.Outbox}},
		{[]api.Record{{Kind: api.Acked, Seq: 3}}, api.Record{
			Marks: api.Marks{Generation: 7, Minted: 5, Sent: 9, Acked: 3, Seen: 4}, Items: b.Items, Outbox: b.Outbox[1:]}},
		{[]api.Record{{Kind: api.Acked, Seq: 8}}, api.Record{
			Marks: api.Marks{Generation: 7, Minted: 5, Sent: 9, Acked: 8, Seen: 4}, Items: b.Items, Outbox: b.Outbox[2:]}},
		{[]api.Record{{Kind: api.Acked, Seq: 9}}, api.Record{
			Marks: api.Marks{Generation: 7, Minted: 5, Sent: 9, Acked: 9, Seen: 4}, Items: b.Items}},
		{[]api.Record{{Kind: api.Destroy, Item: item(1, 2, 0, 0)}, {Kind: api.Arrive, Seq: 5, Item: item(1, 2, -1, 1)}, {Kind: api.Tick}}, api.Record{ // a thing that comes and goes again
			Marks:  api.Marks{Generation: 7, Minted: 5, Sent: 10, Acked: 2, Seen: 5},
			Items:  []api.Item{item(0, 1, -7, 1), item(0, 3, -8, -1)},
			Outbox: append(b.Outbox[:3:3], api.Entry{Seq: 10, Item: item(1, 2, 0, 1)})}},
	} {
		whole := journalOf(append([]api.Record{b}, c.records...)...)
		s := restarted(t, 0, roomy, whole, "")
		has(t, s, c.want.Marks, c.want.Items, c.want.Outbox)
		hasFiles(t, s, whole, "")
	}
}

// TestARestartDoesTheRecordsInTheirOrder: with room for one entry, an Acked between two Ticks tells which thing leaves when.
func TestARestartDoesTheRecordsInTheirOrder(t *testing.T) {
	b := api.Record{Kind: api.Base, Marks: api.Marks{Generation: 1, Minted: 2}, Items: []api.Item{item(0, 1, -1, 1), item(0, 2, -1, 2)}}
	tick, acked := api.Record{Kind: api.Tick}, api.Record{Kind: api.Acked, Seq: 1}
	narrow := api.Config{Items: 2, Outbox: 1, Journal: api.MaxJournal}
	s := restarted(t, 0, narrow, journalOf(b, tick, acked, tick), "")
	has(t, s, api.Marks{Generation: 1, Minted: 2, Sent: 2, Acked: 1}, nil, []api.Entry{{Seq: 2, Item: item(0, 2, 1, 2)}})
	s = restarted(t, 0, narrow, journalOf(b, tick, tick, acked), "")
	has(t, s, api.Marks{Generation: 1, Minted: 2, Sent: 1, Acked: 1}, []api.Item{item(0, 2, -1, 2)}, nil)
}

func TestTheFileThatCounts(t *testing.T) {
	of := func(generation int) string {
		return journalOf(api.Record{Kind: api.Base, Marks: api.Marks{Generation: generation}})
	}
	tick := journalOf(api.Record{Kind: api.Tick})
	for _, c := range []struct {
		first, second string
		counts        int
		generation    int
	}{
		{of(1), "", 0, 1},
		{"", of(1), 1, 1},
		{of(1), of(2), 1, 2},
		{of(3), of(2), 0, 3},
		{of(65534), of(65535), 1, 65535},
		{of(255), of(256), 1, 256},
		{of(3) + tick, of(4) + tick + tick, 1, 4},
		{of(3), tick + of(4), 0, 3}, // a Base that is not first
		{tick + of(4), of(3), 1, 3},
		{of(3), of(4)[:16], 0, 3}, // half a Base
		{of(4)[:16], of(3), 1, 3},
		{of(3), of(4)[1:], 0, 3},
	} {
		s := restarted(t, 1, roomy, c.first, c.second)
		if s.counts != c.counts || s.Marks().Generation != c.generation {
			t.Errorf("P12: of %x and %x the file %d counts, generation %d, want %d, %d", c.first, c.second, s.counts, s.Marks().Generation, c.counts, c.generation)
		}
		hasFiles(t, s, c.first, c.second)
	}
}

func TestWhatIsNoRecordIsGoneFromTheFileThatCounts(t *testing.T) {
	first := journalOf(api.Record{Kind: api.Base, Marks: api.Marks{Generation: 2}}, api.Record{Kind: api.Tick})
	second := journalOf(api.Record{Kind: api.Base, Marks: api.Marks{Generation: 1}})
	for _, tail := range []string{"\x00", "\x00\x03", "\x00\x03\x03\x00", "\x00\x03\x03\x00\x24", "\x00\x03\x04\x00\x23" + first, strings.Repeat("\xff", 3000)} {
		s := restarted(t, 0, roomy, first+tail, second+tail)
		hasFiles(t, s, first, second+tail)
		s = restarted(t, 0, roomy, second+tail, first+tail)
		hasFiles(t, s, second+tail, first)
	}
}

// TestARestartIsNoAct: a Break counts from the first act behind it.
func TestARestartIsNoAct(t *testing.T) {
	s := New(0, roomy)
	s.Crash(0)
	s.Break(1, 0)
	s.Restart()
	if e := s.Tick(); e != api.ErrDown {
		t.Errorf("P7: Tick = %d", e)
	}
}

func TestNoThingLeavesBehindTheLastNumber(t *testing.T) {
	b := api.Record{
		Kind:  api.Base,
		Marks: api.Marks{Generation: 1, Minted: 3, Sent: api.MaxNumber - 1, Acked: api.MaxNumber - 1},
		Items: []api.Item{item(0, 1, -1, 1), item(0, 2, -1, 2), item(0, 3, -2, 1)},
	}
	s := restarted(t, 0, roomy, journalOf(b), "")
	if e := s.Tick(); e != api.OK {
		t.Fatalf("P9: Tick = %d", e)
	}
	marks := api.Marks{Generation: 1, Minted: 3, Sent: api.MaxNumber, Acked: api.MaxNumber - 1}
	has(t, s, marks, []api.Item{item(0, 2, -1, 2), item(0, 3, -1, 1)}, []api.Entry{{Seq: api.MaxNumber, Item: item(0, 1, 0, 1)}})
	if e := s.Snapshot(); e != api.OK {
		t.Fatalf("P11: Snapshot = %d", e)
	}
	s.Crash(0)
	s.Restart()
	marks.Generation = 2
	has(t, s, marks, []api.Item{item(0, 2, -1, 2), item(0, 3, -1, 1)}, []api.Entry{{Seq: api.MaxNumber, Item: item(0, 1, 0, 1)}})
}

func TestTheLastNumberThatIsMinted(t *testing.T) {
	b := api.Record{Kind: api.Base, Marks: api.Marks{Generation: 1, Minted: api.MaxNumber - 1}}
	s := restarted(t, 1, roomy, journalOf(b), "")
	if id, e := s.Mint(1, 0); id != (api.ID{Shard: 1, Number: api.MaxNumber}) || e != api.OK {
		t.Errorf("P8: Mint = %v, %d", id, e)
	}
	if id, e := s.Mint(1, 0); id != (api.ID{}) || e != api.ErrQuota {
		t.Errorf("P8: Mint = %v, %d", id, e)
	}
	if id, e := s.Mint(-1, 0); id != (api.ID{}) || e != api.ErrArg {
		t.Errorf("P8: Mint on the other side = %v, %d", id, e)
	}
	s.Destroy(api.ID{Shard: 1, Number: api.MaxNumber})
	if id, e := s.Mint(1, 0); id != (api.ID{}) || e != api.ErrQuota {
		t.Errorf("P8: Mint = %v, %d", id, e)
	}
}

func TestTheLastGeneration(t *testing.T) {
	b := api.Record{Kind: api.Base, Marks: api.Marks{Generation: api.MaxNumber - 1}}
	s := restarted(t, 1, roomy, journalOf(b), "")
	if e := s.Snapshot(); e != api.OK {
		t.Fatalf("P11: Snapshot = %d", e)
	}
	s.Break(1, 0)
	if e := s.Snapshot(); e != api.ErrFull {
		t.Fatalf("P11: Snapshot = %d", e)
	}
	b.Marks.Generation = api.MaxNumber
	has(t, s, b.Marks, nil, nil)
	if got, _ := s.File(1); got != journalOf(b) {
		t.Errorf("P11: the file has %x", got)
	}
}

// TestThingsOfThePeerDriftToo: in order of the shard of their ID first, back to where they came from.
func TestThingsOfThePeerDriftToo(t *testing.T) {
	minus := float32(math.Copysign(0, -1))
	b := api.Record{
		Kind:  api.Base,
		Marks: api.Marks{Generation: 1, Minted: 9},
		Items: []api.Item{item(0, 4, 1, -2), item(0, 65535, minus, minus), item(1, 1, 1, -3), item(1, 2, 1, -1)},
	}
	s := restarted(t, 1, api.Config{Items: 4, Outbox: 1, Journal: 1000}, journalOf(b), "")
	s.Tick()
	has(t, s, api.Marks{Generation: 1, Minted: 9, Sent: 1},
		[]api.Item{item(0, 65535, minus, minus), item(1, 1, 1, -3), item(1, 2, 0, -1)}, []api.Entry{{Seq: 1, Item: item(0, 4, -1, -2)}})
	if x := s.World()[0]; !math.Signbit(float64(x.Place)) || !math.Signbit(float64(x.Speed)) {
		t.Errorf("P9: a nought has lost its sign: %+v", x)
	}
}
