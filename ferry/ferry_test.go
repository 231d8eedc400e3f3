package ferry

import (
	"math"
	"math/rand"
	"slices"
	"testing"

	"ferry/api"
	"ferry/wire"
)

var minus = float32(math.Copysign(0, -1))

// beyond is the first float32 that is too far.
var beyond = math.Nextafter32(api.Far, 2*api.Far)

var noShards = []int{-1, 2, 3, math.MaxInt, math.MinInt}

func item(shard, number int, place, speed float32) api.Item {
	return api.Item{ID: api.ID{Shard: shard, Number: number}, Place: place, Speed: speed}
}

func fresh(t *testing.T, items, outbox, journal int) *Pair {
	t.Helper()
	p, e := New(api.Config{Items: items, Outbox: outbox, Journal: journal})
	if p == nil || e != api.OK {
		t.Fatalf("P6: New(%d, %d, %d) = %v, %d", items, outbox, journal, p, e)
	}
	return p
}

func roomy(t *testing.T) *Pair {
	t.Helper()
	return fresh(t, api.MaxItems, api.MaxOutbox, api.MaxJournal)
}

// answers: a call's error.
func answers(t *testing.T, what string, got, want api.Errno) {
	t.Helper()
	if got != want {
		t.Fatalf("%s = %d, want %d", what, got, want)
	}
}

func mints(t *testing.T, p *Pair, shard int, place, speed float32, number int) {
	t.Helper()
	if id, e := p.Mint(shard, place, speed); id != (api.ID{Shard: shard, Number: number}) || e != api.OK {
		t.Fatalf("P8: Mint(%d, %v, %v) = %v, %d, want the number %d", shard, place, speed, id, e, number)
	}
}

func mintsNone(t *testing.T, p *Pair, shard int, place, speed float32, want api.Errno) {
	t.Helper()
	if id, e := p.Mint(shard, place, speed); id != (api.ID{}) || e != want {
		t.Fatalf("P8: Mint(%d, %v, %v) = %v, %d, want %d", shard, place, speed, id, e, want)
	}
}

// told: all that a shard tells of itself while it is up.
type told struct {
	world  []api.Item
	outbox []api.Entry
	marks  api.Marks
}

func tell(t *testing.T, p *Pair, shard int) told {
	t.Helper()
	world, e := p.World(shard)
	answers(t, "P13: World", e, api.OK)
	outbox, e := p.Outbox(shard)
	answers(t, "P13: Outbox", e, api.OK)
	marks, e := p.Marks(shard)
	answers(t, "P13: Marks", e, api.OK)
	return told{world, outbox, marks}
}

// sameTold looks at the patterns of floats: noughts with a sign are others.
func sameTold(a, b told) bool {
	sameItem := func(x, y api.Item) bool {
		return x.ID == y.ID && math.Float32bits(x.Place) == math.Float32bits(y.Place) && math.Float32bits(x.Speed) == math.Float32bits(y.Speed)
	}
	return a.marks == b.marks && slices.EqualFunc(a.world, b.world, sameItem) &&
		slices.EqualFunc(a.outbox, b.outbox, func(x, y api.Entry) bool { return x.Seq == y.Seq && sameItem(x.Item, y.Item) })
}

func tells(t *testing.T, p *Pair, shard int, marks api.Marks, world []api.Item, outbox ...api.Entry) {
	t.Helper()
	if got, want := tell(t, p, shard), (told{world, outbox, marks}); !sameTold(got, want) {
		t.Fatalf("shard %d: %+v, want %+v", shard, got, want)
	}
}

// both: the bytes of a shard's files.
func both(t *testing.T, p *Pair, shard int) [2]string {
	t.Helper()
	var files [2]string
	for n := range files {
		s, e := p.File(shard, n)
		answers(t, "P13: File", e, api.OK)
		files[n] = s
	}
	return files
}

func journalOf(t *testing.T, records ...api.Record) string {
	t.Helper()
	journal := ""
	for _, r := range records {
		s, e := wire.Encode(r)
		answers(t, "Encode", e, api.OK)
		journal += string([]byte{byte(len(s) >> 8), byte(len(s))}) + s
	}
	return journal
}

func hasFiles(t *testing.T, p *Pair, shard int, first, second string) {
	t.Helper()
	if got := both(t, p, shard); got != [2]string{first, second} {
		t.Fatalf("files of shard %d: %x, want %x", shard, got, [2]string{first, second})
	}
}

func baseOf(marks api.Marks, items ...api.Item) api.Record {
	return api.Record{Kind: api.Base, Marks: marks, Items: items}
}

var firstBase = baseOf(api.Marks{Generation: 1})

var tick = api.Record{Kind: api.Tick}

func mintOf(x api.Item) api.Record {
	return api.Record{Kind: api.Mint, Item: x}
}

func TestNewRefusesSettings(t *testing.T) {
	for _, c := range []struct {
		config api.Config
		want   api.Errno
	}{
		{api.Config{Items: 1, Outbox: 1, Journal: 1}, api.OK},
		{api.Config{Items: 16, Outbox: 8, Journal: 2000}, api.OK},
		{api.Config{}, api.ErrConfig},
		{api.Config{Items: 0, Outbox: 1, Journal: 1}, api.ErrConfig},
		{api.Config{Items: 17, Outbox: 1, Journal: 1}, api.ErrConfig},
		{api.Config{Items: -1, Outbox: 1, Journal: 1}, api.ErrConfig},
		{api.Config{Items: 1, Outbox: 0, Journal: 1}, api.ErrConfig},
		{api.Config{Items: 1, Outbox: 9, Journal: 1}, api.ErrConfig},
		{api.Config{Items: 1, Outbox: 1, Journal: 0}, api.ErrConfig},
		{api.Config{Items: 1, Outbox: 1, Journal: 2001}, api.ErrConfig},
		{api.Config{Items: math.MaxInt, Outbox: math.MinInt, Journal: math.MaxInt}, api.ErrConfig},
	} {
		if p, e := New(c.config); e != c.want || (p != nil) != (e == api.OK) {
			t.Errorf("P6: New(%+v) = %v, %d, want %d", c.config, p, e, c.want)
		}
	}
}

func TestANewPair(t *testing.T) {
	for _, room := range []int{1, 16, 17, 2000} {
		p := fresh(t, 1, 1, room)
		for shard := range 2 {
			tells(t, p, shard, api.Marks{Generation: 1}, nil)
			hasFiles(t, p, shard, "\x00\x0f\x06\x00\x01\x00\x00\x00\x00\x00\x00\x00\x00\x00\x00"+sumOfFirstBase(), "")
			underWay(t, p, shard)
			answers(t, "P7: Crash", p.Crash(shard, -1), api.OK)
			answers(t, "P12: Restart", p.Restart(shard), api.OK)
			tells(t, p, shard, api.Marks{Generation: 1}, nil)
			hasFiles(t, p, shard, journalOf(t, firstBase), "")
		}
	}
}

func sumOfFirstBase() string {
	sum := wire.Sum("\x06\x00\x01\x00\x00\x00\x00\x00\x00\x00\x00\x00\x00")
	return string([]byte{byte(sum >> 8), byte(sum)})
}

// calls: every call of a shard; all other arguments are right, if they can be.
func calls(p *Pair, shard int) map[string]api.Errno {
	_, mint := p.Mint(shard, float32(2*shard-1), 0)
	_, world := p.World(shard)
	_, outbox := p.Outbox(shard)
	_, marks := p.Marks(shard)
	_, flight := p.Flight(shard)
	_, file := p.File(shard, 0)
	return map[string]api.Errno{
		"Mint": mint, "World": world, "Outbox": outbox, "Marks": marks, "Flight": flight, "File": file,
		"Destroy": p.Destroy(shard, api.ID{Shard: shard, Number: 1}), "Tick": p.Tick(shard), "Snapshot": p.Snapshot(shard),
		"Send": p.Send(shard), "Inject": p.Inject(shard, "x"), "Double": p.Double(shard, 0), "Spoil": p.Spoil(shard, 0, 0),
		"Deliver": p.Deliver(shard, 0), "Drop": p.Drop(shard, 0),
		"Break": p.Break(shard, 0, 0), "Crash": p.Crash(shard, 0), "Restart": p.Restart(shard),
	}
}

func TestNoSuchShard(t *testing.T) {
	for _, shard := range noShards {
		p := roomy(t)
		for name, e := range calls(p, shard) {
			if e != api.ErrArg {
				t.Errorf("P1: %s of shard %d = %d", name, shard, e)
			}
		}
		for i := range 2 {
			tells(t, p, i, api.Marks{Generation: 1}, nil)
			underWay(t, p, i)
		}
	}
}

func TestNoSuchShardIsNamedAheadOfAllElse(t *testing.T) {
	p := roomy(t)
	for _, shard := range noShards {
		_, e := p.File(shard, 7)
		answers(t, "P1: File", e, api.ErrArg)
		_, e = p.Mint(shard, float32(math.NaN()), beyond)
		answers(t, "P1: Mint", e, api.ErrArg)
		answers(t, "P1: Destroy", p.Destroy(shard, api.ID{}), api.ErrArg)
		answers(t, "P1: Break", p.Break(shard, -1, 0), api.ErrArg)
		answers(t, "P1: Deliver", p.Deliver(shard, -1), api.ErrArg)
		answers(t, "P1: Drop", p.Drop(shard, -1), api.ErrArg)
		answers(t, "P1: Double", p.Double(shard, -1), api.ErrArg)
		answers(t, "P1: Spoil", p.Spoil(shard, -1, -1), api.ErrArg)
		if l, e := p.Flight(shard); l != nil || e != api.ErrArg {
			t.Errorf("P1: Flight(%d) = %q, %d", shard, l, e)
		}
	}
}

func TestAShardThatIsDown(t *testing.T) {
	for shard := range 2 {
		p := roomy(t)
		mints(t, p, shard, float32(2*shard-1), 0, 1)
		files := both(t, p, shard)
		answers(t, "P7: Crash", p.Crash(shard, 0), api.OK)
		for name, e := range calls(p, shard) {
			want := api.ErrDown
			switch name {
			case "Inject", "Double", "Spoil", "Deliver", "Drop", "Flight", "File", "Break", "Restart":
				want = api.OK
			}
			if e != want {
				t.Errorf("P1: %s of a shard that is down = %d, want %d", name, e, want)
			}
		}
		if both(t, p, shard) != files {
			t.Errorf("P1: files have changed")
		}
		for name, e := range calls(p, shard) { // Restart was the last call
			if e != api.OK {
				t.Errorf("P12: behind the Restart, %s = %d", name, e)
			}
		}
	}
}

func TestAnswersWhileDownAreZero(t *testing.T) {
	p := roomy(t)
	mints(t, p, 0, -1, 1, 1)
	mints(t, p, 0, -1, 0, 2)
	answers(t, "P9: Tick", p.Tick(0), api.OK)
	answers(t, "P7: Crash", p.Crash(0, 0), api.OK)
	mintsNone(t, p, 0, -1, 0, api.ErrDown)
	mintsNone(t, p, 0, 1, 0, api.ErrDown) // named ahead of ErrArg
	answers(t, "P8: Destroy", p.Destroy(0, api.ID{}), api.ErrDown)
	world, _ := p.World(0)
	outbox, _ := p.Outbox(0)
	marks, _ := p.Marks(0)
	if world != nil || outbox != nil || marks != (api.Marks{}) {
		t.Errorf("P1: answers with ErrDown: %v, %v, %v", world, outbox, marks)
	}
	if s, e := p.File(0, 2); s != "" || e != api.ErrNone {
		t.Errorf("P13: File = %q, %d", s, e)
	}
}

func TestMintOfWhatMayNotBe(t *testing.T) {
	infinite, none := float32(math.Inf(1)), float32(math.NaN())
	p := roomy(t)
	answers(t, "P7: Break", p.Break(0, 1, 0), api.OK) // no act is done
	for _, c := range []struct {
		shard        int
		place, speed float32
	}{
		{0, -beyond, 0}, {0, -infinite, 0}, {0, none, 0}, {0, 0, 0}, {0, minus, 0}, {0, 1, 0}, {0, api.Far, 0}, {0, infinite, 0},
		{0, -1, beyond}, {0, -1, -beyond}, {0, -1, infinite}, {0, -1, -infinite}, {0, -1, none},
		{1, -1, 0}, {1, -math.SmallestNonzeroFloat32, 0}, {1, -api.Far, 0}, {1, beyond, 0}, {1, infinite, 0}, {1, none, 0},
		{1, 1, beyond}, {1, 1, -beyond}, {1, 1, none},
	} {
		mintsNone(t, p, c.shard, c.place, c.speed, api.ErrArg)
	}
	for i := range 2 {
		tells(t, p, i, api.Marks{Generation: 1}, nil)
		hasFiles(t, p, i, journalOf(t, firstBase), "")
	}
}

func TestMint(t *testing.T) {
	p := fresh(t, 4, 1, 1000)
	left := []api.Item{item(0, 1, -api.Far, api.Far), item(0, 2, -math.SmallestNonzeroFloat32, -api.Far), item(0, 3, -1, minus)}
	right := []api.Item{item(1, 1, minus, 0), item(1, 2, 0, 0), item(1, 3, api.Far, 2), item(1, 4, 0.1, 0.2)}
	records := [][]api.Record{{firstBase}, {firstBase}}
	for i, l := range [][]api.Item{left, right} {
		for k, x := range l {
			mints(t, p, i, x.Place, x.Speed, k+1)
			records[i] = append(records[i], mintOf(x))
			tells(t, p, i, api.Marks{Generation: 1, Minted: k + 1}, l[:k+1])
			hasFiles(t, p, i, journalOf(t, records[i]...), "")
		}
	}
	mintsNone(t, p, 1, 1, 0, api.ErrQuota)
	mintsNone(t, p, 1, -1, 0, api.ErrArg) // named ahead of ErrQuota
	mints(t, p, 0, -5, 0, 4)
	mintsNone(t, p, 0, -5, 0, api.ErrQuota)
	tells(t, p, 1, api.Marks{Generation: 1, Minted: 4}, right)
}

func TestDestroy(t *testing.T) {
	p := fresh(t, 2, 1, 1000)
	mints(t, p, 0, -1, 0, 1)
	mints(t, p, 0, -2, 2, 2)
	mints(t, p, 1, 1, 0, 1)
	for _, id := range []api.ID{{}, {Number: 3}, {Number: -1}, {Number: api.MaxNumber + 2}, {Shard: 1, Number: 1}, {Shard: 1, Number: 2}, {Shard: -1, Number: 1}, {Shard: math.MaxInt, Number: math.MinInt}} {
		answers(t, "P8: Destroy of none", p.Destroy(0, id), api.ErrNone)
	}
	answers(t, "P8: Destroy", p.Destroy(0, api.ID{Number: 1}), api.OK)
	answers(t, "P8: Destroy once more", p.Destroy(0, api.ID{Number: 1}), api.ErrNone)
	tells(t, p, 0, api.Marks{Generation: 1, Minted: 2}, []api.Item{item(0, 2, -2, 2)})
	mints(t, p, 0, -3, 0, 3) // no number is given twice
	answers(t, "P9: Tick", p.Tick(0), api.OK)
	answers(t, "P8: Destroy of what is in the outbox", p.Destroy(0, api.ID{Number: 2}), api.ErrNone)
	answers(t, "P8: Destroy of what is on its way", p.Destroy(1, api.ID{Number: 2}), api.ErrNone)
	tells(t, p, 0, api.Marks{Generation: 1, Minted: 3, Sent: 1}, []api.Item{item(0, 3, -3, 0)}, api.Entry{Seq: 1, Item: item(0, 2, 0, 2)})
	hasFiles(t, p, 0, journalOf(t, firstBase, mintOf(item(0, 1, -1, 0)), mintOf(item(0, 2, -2, 2)),
		api.Record{Kind: api.Destroy, Item: item(0, 1, 0, 0)}, mintOf(item(0, 3, -3, 0)), tick), "")
	mints(t, p, 0, -4, 0, 4) // what is in the outbox is no more one of its things
	mintsNone(t, p, 0, -4, 0, api.ErrQuota)
}

func TestExample5(t *testing.T) {
	p := roomy(t)
	mints(t, p, 1, 999, 2, 1)
	answers(t, "P9: Tick", p.Tick(1), api.OK)
	tells(t, p, 1, api.Marks{Generation: 1, Minted: 1}, []api.Item{item(1, 1, 999, -2)})
}

func TestExample6(t *testing.T) {
	record := journalOf(t, firstBase, mintOf(item(0, 1, -1, 0)))
	p := roomy(t)
	answers(t, "P7: Break", p.Break(0, 2, 3), api.OK)
	mintsNone(t, p, 0, -1, 0, api.ErrDown)
	hasFiles(t, p, 0, record[:17+3], "")
	answers(t, "P12: Restart", p.Restart(0), api.OK)
	tells(t, p, 0, api.Marks{Generation: 1}, nil)
	hasFiles(t, p, 0, record[:17], "")
	answers(t, "P7: Break", p.Break(0, 2, 100), api.OK)
	mintsNone(t, p, 0, -1, 0, api.ErrDown)
	answers(t, "P12: Restart", p.Restart(0), api.OK)
	tells(t, p, 0, api.Marks{Generation: 1, Minted: 1}, []api.Item{item(0, 1, -1, 0)})
	hasFiles(t, p, 0, record, "")
}

// TestWhereAThingDrifts: one thing, one tick.
func TestWhereAThingDrifts(t *testing.T) {
	least := float32(math.SmallestNonzeroFloat32)
	for _, c := range []struct {
		shard        int
		place, speed float32
		after        api.Item
		leaves       bool
	}{
		{0, -3, 1, item(0, 1, -2, 1), false},
		{0, -3, -1, item(0, 1, -4, -1), false},
		{0, -3, 0, item(0, 1, -3, 0), false},
		{0, -1, 1, item(0, 1, 0, 1), true},
		{0, -least, least, item(0, 1, 0, least), true},
		{0, -2 * least, least, item(0, 1, -least, least), false},
		{0, -1, api.Far, item(0, 1, 999, api.Far), true},
		{0, -least, api.Far, item(0, 1, api.Far, api.Far), true},
		{0, -api.Far, -1e-5, item(0, 1, -api.Far, -1e-5), false}, // the sum is rounded to -Far
		{0, -api.Far, -1e-4, item(0, 1, -api.Far, 1e-4), false},
		{0, -api.Far, -api.Far, item(0, 1, -api.Far, api.Far), false},
		{0, -999, -1, item(0, 1, -api.Far, -1), false},
		{0, -999, -1.001, item(0, 1, -999, 1.001), false},
		{1, 3, 1, item(1, 1, 4, 1), false},
		{1, 3, -3, item(1, 1, 0, -3), false},
		{1, 0, minus, item(1, 1, 0, minus), false},
		{1, minus, minus, item(1, 1, minus, minus), false},
		{1, minus, 0, item(1, 1, 0, 0), false},
		{1, 3, -4, item(1, 1, -1, -4), true},
		{1, 0, -least, item(1, 1, -least, -least), true},
		{1, 0, -api.Far, item(1, 1, -api.Far, -api.Far), true},
		{1, api.Far, 1e-5, item(1, 1, api.Far, 1e-5), false},
		{1, api.Far, 1e-4, item(1, 1, api.Far, -1e-4), false},
		{1, 999, 1, item(1, 1, api.Far, 1), false},
		{1, 16777215.0 / 16777216, 1.0 / 33554432, item(1, 1, 1, 1.0/33554432), false}, // half way: to the even one
		{1, 0.1, 0.2, item(1, 1, 0.3, 0.2), false},                                     // rounded
	} {
		p := roomy(t)
		mints(t, p, c.shard, c.place, c.speed, 1)
		answers(t, "P9: Tick", p.Tick(c.shard), api.OK)
		if c.leaves {
			tells(t, p, c.shard, api.Marks{Generation: 1, Minted: 1, Sent: 1}, nil, api.Entry{Seq: 1, Item: c.after})
		} else {
			tells(t, p, c.shard, api.Marks{Generation: 1, Minted: 1}, []api.Item{c.after})
		}
		tells(t, p, 1-c.shard, api.Marks{Generation: 1}, nil)
	}
}

func TestAThingTurnsAndComesBack(t *testing.T) {
	p := roomy(t)
	mints(t, p, 1, 998, 1.5, 1)
	for _, x := range []api.Item{item(1, 1, 999.5, 1.5), item(1, 1, 999.5, -1.5), item(1, 1, 998, -1.5)} {
		answers(t, "P9: Tick", p.Tick(1), api.OK)
		tells(t, p, 1, api.Marks{Generation: 1, Minted: 1}, []api.Item{x})
	}
}

// TestTheOutboxFillsInOrder: of those that would leave at one tick, the first ones; the others stay as they are, and the rest drifts.
func TestTheOutboxFillsInOrder(t *testing.T) {
	for room := 1; room <= api.MaxOutbox; room++ {
		p := fresh(t, 16, room, 2000)
		var world []api.Item
		var outbox []api.Entry
		for k := 1; k <= 16; k++ {
			mints(t, p, 0, -float32(k), 16, k)
		}
		answers(t, "P9: Tick", p.Tick(0), api.OK)
		for k := 1; k <= 16; k++ {
			if k <= room {
				outbox = append(outbox, api.Entry{Seq: k, Item: item(0, k, 16-float32(k), 16)})
			} else {
				world = append(world, item(0, k, -float32(k), 16))
			}
		}
		tells(t, p, 0, api.Marks{Generation: 1, Minted: 16, Sent: room}, world, outbox...)
		answers(t, "P9: Tick", p.Tick(0), api.OK)
		tells(t, p, 0, api.Marks{Generation: 1, Minted: 16, Sent: room}, world, outbox...)
	}
}

func TestWhileTheOutboxIsFullTheRestDrifts(t *testing.T) {
	p := fresh(t, 4, 1, 1000)
	mints(t, p, 1, 999, 5, 1)
	mints(t, p, 1, 1, -2, 2)
	mints(t, p, 1, 0, -3, 3)
	mints(t, p, 1, 7, -3, 4)
	first := api.Entry{Seq: 1, Item: item(1, 2, -1, -2)}
	answers(t, "P9: Tick", p.Tick(1), api.OK)
	tells(t, p, 1, api.Marks{Generation: 1, Minted: 4, Sent: 1}, []api.Item{item(1, 1, 999, -5), item(1, 3, 0, -3), item(1, 4, 4, -3)}, first)
	answers(t, "P9: Tick", p.Tick(1), api.OK)
	tells(t, p, 1, api.Marks{Generation: 1, Minted: 4, Sent: 1}, []api.Item{item(1, 1, 994, -5), item(1, 3, 0, -3), item(1, 4, 1, -3)}, first)
	answers(t, "P9: Tick", p.Tick(1), api.OK)
	tells(t, p, 1, api.Marks{Generation: 1, Minted: 4, Sent: 1}, []api.Item{item(1, 1, 989, -5), item(1, 3, 0, -3), item(1, 4, 1, -3)}, first)
}

// TestAFullJournal: a record fits if the file then has just as many bytes as a journal may have, and not with one more.
func TestAFullJournal(t *testing.T) {
	const base, mint, destroy, tick = 17, 16, 8, 5
	for _, c := range []struct {
		what   string
		size   int
		before int
		call   func(*Pair) api.Errno
	}{
		{"Mint", mint, 0, func(p *Pair) api.Errno { _, e := p.Mint(0, -1, 0); return e }},
		{"Mint", mint, 1, func(p *Pair) api.Errno { _, e := p.Mint(0, -1, 0); return e }},
		{"Tick", tick, 0, func(p *Pair) api.Errno { return p.Tick(0) }},
		{"Tick", tick, 3, func(p *Pair) api.Errno { return p.Tick(0) }},
		{"Destroy", destroy, 1, func(p *Pair) api.Errno { return p.Destroy(0, api.ID{Number: 1}) }},
	} {
		for _, room := range []int{-1, 0, 1} {
			p := fresh(t, 16, 1, base+c.before*mint+c.size+room)
			for k := range c.before {
				mints(t, p, 0, -9, 1, k+1)
			}
			if room >= 0 {
				answers(t, "P8: "+c.what, c.call(p), api.OK)
				answers(t, "P8: Tick", p.Tick(0), api.ErrFull)
				continue
			}
			before, files := tell(t, p, 0), both(t, p, 0)
			answers(t, "P7: Break", p.Break(0, 1, 100), api.OK) // no act is done
			answers(t, "P8: "+c.what, c.call(p), api.ErrFull)
			if after := tell(t, p, 0); !sameTold(before, after) || both(t, p, 0) != files {
				t.Errorf("P8: %s without room: %+v, was %+v", c.what, after, before)
			}
		}
	}
}

func TestErrorsNamedAheadOfErrFull(t *testing.T) {
	p := fresh(t, 1, 1, 33)
	mints(t, p, 0, -1, 0, 1)
	mintsNone(t, p, 0, -1, 0, api.ErrQuota)
	mintsNone(t, p, 0, 1, 0, api.ErrArg)
	answers(t, "P8: Destroy", p.Destroy(0, api.ID{Number: 2}), api.ErrNone)
	answers(t, "P8: Destroy", p.Destroy(0, api.ID{Number: 1}), api.ErrFull)
	p = fresh(t, 2, 1, 33)
	mints(t, p, 0, -1, 0, 1)
	if id, e := p.Mint(0, -1, 0); id != (api.ID{}) || e != api.ErrFull {
		t.Errorf("P8: Mint = %v, %d", id, e)
	}
	answers(t, "P7: Crash", p.Crash(0, 0), api.OK)
	answers(t, "P1: Tick", p.Tick(0), api.ErrDown)
}

func TestBreakOfAnyAct(t *testing.T) {
	whole := journalOf(t, mintOf(item(1, 1, 5, 0)))
	base := journalOf(t, firstBase)
	for act := 1; act <= 2; act++ {
		for _, keep := range []int{math.MinInt, -1, 0, 1, 2, 15, 16, 17, math.MaxInt} {
			p := roomy(t)
			answers(t, "P7: Break", p.Break(1, act, keep), api.OK)
			mints(t, p, 0, -1, 0, 1) // the other disk does its acts
			mintsNone(t, p, 1, 5, 0, api.ErrDown)
			stay := min(max(keep, 0), len(whole))
			hasFiles(t, p, 1, base+whole[:stay], "")
			answers(t, "P7: Crash", p.Crash(1, 0), api.ErrDown)
			hasFiles(t, p, 1, base+whole[:stay], "")
			answers(t, "P12: Restart of the other one", p.Restart(0), api.ErrArg)
			answers(t, "P12: Restart", p.Restart(1), api.OK)
			if stay == len(whole) {
				tells(t, p, 1, api.Marks{Generation: 1, Minted: 1}, []api.Item{item(1, 1, 5, 0)})
				hasFiles(t, p, 1, base+whole, "")
			} else {
				tells(t, p, 1, api.Marks{Generation: 1}, nil)
				hasFiles(t, p, 1, base, "")
			}
			answers(t, "P9: Tick", p.Tick(1), api.OK) // the Break was for once
			tells(t, p, 0, api.Marks{Generation: 1, Minted: 1}, []api.Item{item(0, 1, -1, 0)})
		}
	}
}

func TestBreakCountsOverCalls(t *testing.T) {
	p := roomy(t)
	answers(t, "P7: Break", p.Break(0, 6, 4), api.OK)
	mints(t, p, 0, -5, 1, 1)
	answers(t, "P8: Destroy", p.Destroy(0, api.ID{Number: 9}), api.ErrNone)
	mintsNone(t, p, 0, 5, 1, api.ErrArg)
	answers(t, "P9: Tick", p.Tick(0), api.OK)
	tells(t, p, 0, api.Marks{Generation: 1, Minted: 1}, []api.Item{item(0, 1, -4, 1)})
	answers(t, "P9: Tick", p.Tick(0), api.ErrDown)
	answers(t, "P12: Restart", p.Restart(0), api.OK)
	tells(t, p, 0, api.Marks{Generation: 1, Minted: 1}, []api.Item{item(0, 1, -4, 1)})
}

func TestTheLastBreakCounts(t *testing.T) {
	p := roomy(t)
	answers(t, "P7: Break", p.Break(0, 1, 0), api.OK)
	answers(t, "P7: Break", p.Break(0, 3, 0), api.OK)
	answers(t, "P7: Break of none", p.Break(0, -1, 0), api.ErrArg)
	answers(t, "P7: Break of none", p.Break(0, math.MinInt, 0), api.ErrArg)
	answers(t, "P7: Break of the other one", p.Break(1, 0, 0), api.OK)
	answers(t, "P9: Tick", p.Tick(0), api.OK)
	answers(t, "P9: Tick", p.Tick(0), api.ErrDown)
	answers(t, "P12: Restart", p.Restart(0), api.OK)
	answers(t, "P7: Break", p.Break(0, 1, 0), api.OK)
	answers(t, "P7: Break", p.Break(0, 0, 0), api.OK)
	answers(t, "P9: Tick", p.Tick(0), api.OK)
	answers(t, "P7: Break", p.Break(0, math.MaxInt, math.MaxInt), api.OK)
	answers(t, "P9: Tick", p.Tick(0), api.OK)
}

func TestACrashEndsABreak(t *testing.T) {
	p := roomy(t)
	answers(t, "P7: Break", p.Break(0, 1, 0), api.OK)
	answers(t, "P7: Crash", p.Crash(0, 0), api.OK)
	answers(t, "P12: Restart", p.Restart(0), api.OK)
	answers(t, "P9: Tick", p.Tick(0), api.OK)
	answers(t, "P7: Crash", p.Crash(0, 0), api.OK)
	answers(t, "P7: Break", p.Break(0, 1, 0), api.OK) // but not one that comes later
	answers(t, "P12: Restart", p.Restart(0), api.OK)
	answers(t, "P9: Tick", p.Tick(0), api.ErrDown)
}

func TestWhatIsDoneOutlivesACrash(t *testing.T) {
	for _, keep := range []int{math.MinInt, -1, 0, 1, 100, math.MaxInt} {
		p := roomy(t)
		mints(t, p, 0, -1, 0.25, 1)
		mints(t, p, 0, -999, -4, 2)
		mints(t, p, 0, -0.5, minus, 3)
		for range 5 {
			answers(t, "P9: Tick", p.Tick(0), api.OK)
		}
		answers(t, "P8: Destroy", p.Destroy(0, api.ID{Number: 2}), api.OK)
		before, files := tell(t, p, 0), both(t, p, 0)
		answers(t, "P7: Crash", p.Crash(0, keep), api.OK)
		answers(t, "P12: Restart", p.Restart(0), api.OK)
		answers(t, "P12: Restart once more", p.Restart(0), api.ErrArg)
		if after := tell(t, p, 0); !sameTold(before, after) || both(t, p, 0) != files {
			t.Errorf("P12: %+v behind the crash, was %+v", after, before)
		}
	}
}

func TestSnapshot(t *testing.T) {
	p := fresh(t, 4, 2, 100)
	mints(t, p, 1, 1, -2, 1)
	mints(t, p, 1, 5, 0.5, 2)
	mints(t, p, 1, minus, minus, 3)
	answers(t, "P9: Tick", p.Tick(1), api.OK)
	first := both(t, p, 1)[0]
	answers(t, "P11: Snapshot", p.Snapshot(1), api.OK)
	base := api.Record{
		Kind:   api.Base,
		Marks:  api.Marks{Generation: 2, Minted: 3, Sent: 1},
		Items:  []api.Item{item(1, 2, 5.5, 0.5), item(1, 3, minus, minus)},
		Outbox: []api.Entry{{Seq: 1, Item: item(1, 1, -1, -2)}},
	}
	hasFiles(t, p, 1, first, journalOf(t, base))
	tells(t, p, 1, base.Marks, base.Items, base.Outbox...)
	answers(t, "P9: Tick", p.Tick(1), api.OK)
	base.Items[0].Place = 6
	second := both(t, p, 1)[1]
	answers(t, "P11: Snapshot", p.Snapshot(1), api.OK)
	base.Marks.Generation = 3
	hasFiles(t, p, 1, journalOf(t, base), second)
	answers(t, "P9: Tick", p.Tick(1), api.OK)
	base.Items[0].Place = 6.5
	hasFiles(t, p, 1, both(t, p, 1)[0], second)
	answers(t, "P7: Crash", p.Crash(1, 0), api.OK)
	answers(t, "P12: Restart", p.Restart(1), api.OK)
	tells(t, p, 1, base.Marks, base.Items, base.Outbox...)
	hasFiles(t, p, 0, journalOf(t, firstBase), "")
}

func TestASnapshotThatHasNoRoom(t *testing.T) {
	for _, c := range []struct {
		journal int
		want    api.Errno
	}{{1, api.ErrFull}, {16, api.ErrFull}, {17, api.OK}, {18, api.OK}} {
		p := fresh(t, 1, 1, c.journal)
		answers(t, "P11: Snapshot", p.Snapshot(0), c.want)
		answers(t, "P9: Tick", p.Tick(0), api.ErrFull)
	}
}

// TestASnapshotOfTooMuch: in an outbox a thing takes two bytes more, so that a Tick, of five bytes, may make the Base grow by sixteen.
func TestASnapshotOfTooMuch(t *testing.T) {
	const base = 17 + 8*13
	for _, c := range []struct {
		journal int
		want    api.Errno
	}{{base - 11, api.ErrFull}, {base - 1, api.ErrFull}, {base, api.OK}, {base + 1, api.OK}} {
		p := fresh(t, 16, 8, c.journal)
		for k := range 8 {
			mints(t, p, 0, -1, 1, k+1)
			answers(t, "P11: Snapshot", p.Snapshot(0), api.OK)
		}
		answers(t, "P9: Tick", p.Tick(0), api.OK)
		before, files := tell(t, p, 0), both(t, p, 0)
		answers(t, "P11: Snapshot", p.Snapshot(0), c.want)
		if c.want == api.OK {
			tells(t, p, 0, api.Marks{Generation: 10, Minted: 8, Sent: 8}, nil, before.outbox...)
			continue
		}
		answers(t, "P7: Break", p.Break(0, 1, 0), api.OK) // no act is done
		answers(t, "P11: Snapshot", p.Snapshot(0), api.ErrFull)
		if !sameTold(tell(t, p, 0), before) || both(t, p, 0) != files {
			t.Errorf("P11: a Snapshot without room has changed something")
		}
	}
}

// TestBreakOfASnapshot: its three acts, and what stays of the Base.
func TestBreakOfASnapshot(t *testing.T) {
	for act := 1; act <= 3; act++ {
		for _, keep := range []int{-1, 0, 1, 27, 28, 29, math.MaxInt} {
			p := roomy(t)
			mints(t, p, 0, -9, 1, 1)
			answers(t, "P11: Snapshot", p.Snapshot(0), api.OK)
			answers(t, "P9: Tick", p.Tick(0), api.OK)
			files := both(t, p, 0)
			answers(t, "P7: Break", p.Break(0, act, keep), api.OK)
			answers(t, "P7: Snapshot", p.Snapshot(0), api.ErrDown)
			base := journalOf(t, baseOf(api.Marks{Generation: 3, Minted: 1}, item(0, 1, -8, 1)))
			marks := api.Marks{Generation: 2, Minted: 1}
			if act > 1 {
				files[0] = base[:min(max(keep, 0), len(base))]
			}
			if files[0] == base {
				marks.Generation = 3
			}
			hasFiles(t, p, 0, files[0], files[1])
			answers(t, "P12: Restart", p.Restart(0), api.OK)
			hasFiles(t, p, 0, files[0], files[1])
			tells(t, p, 0, marks, []api.Item{item(0, 1, -8, 1)})
			answers(t, "P9: Tick", p.Tick(0), api.OK)
			answers(t, "P11: Snapshot", p.Snapshot(0), api.OK) // cuts what stayed
			marks.Generation++
			tells(t, p, 0, marks, []api.Item{item(0, 1, -7, 1)})
			answers(t, "P7: Crash", p.Crash(0, 0), api.OK)
			answers(t, "P12: Restart", p.Restart(0), api.OK)
			tells(t, p, 0, marks, []api.Item{item(0, 1, -7, 1)})
		}
	}
}

// TestTheLastNumbers: as far as calls alone may go.
func TestTheLastNumbers(t *testing.T) {
	p := roomy(t)
	for k := 1; k <= api.MaxNumber; k++ {
		_, e := p.Mint(0, -1, 0)
		if e == api.ErrFull {
			answers(t, "P11: Snapshot", p.Snapshot(0), api.OK)
			_, e = p.Mint(0, -1, 0)
		}
		answers(t, "P8: Mint", e, api.OK)
		e = p.Destroy(0, api.ID{Number: k})
		if e == api.ErrFull {
			answers(t, "P11: Snapshot", p.Snapshot(0), api.OK)
			e = p.Destroy(0, api.ID{Number: k})
		}
		answers(t, "P8: Destroy", e, api.OK)
	}
	mintsNone(t, p, 0, -1, 0, api.ErrQuota)
	marks, _ := p.Marks(0)
	for k := marks.Generation; k < api.MaxNumber; k++ {
		answers(t, "P11: Snapshot", p.Snapshot(0), api.OK)
	}
	answers(t, "P11: Snapshot", p.Snapshot(0), api.ErrFull)
	tells(t, p, 0, api.Marks{Generation: api.MaxNumber, Minted: api.MaxNumber}, nil)
	answers(t, "P7: Crash", p.Crash(0, 0), api.OK)
	answers(t, "P12: Restart", p.Restart(0), api.OK)
	tells(t, p, 0, api.Marks{Generation: api.MaxNumber, Minted: api.MaxNumber}, nil)
}

func TestFileThatIsNone(t *testing.T) {
	p := roomy(t)
	for shard := range 2 {
		for _, n := range []int{-1, 2, math.MaxInt, math.MinInt} {
			if s, e := p.File(shard, n); s != "" || e != api.ErrNone {
				t.Errorf("P13: File(%d, %d) = %q, %d", shard, n, s, e)
			}
		}
	}
}

// scribble writes over all room that the lists have.
func scribble(l told) {
	world, outbox := l.world[:cap(l.world)], l.outbox[:cap(l.outbox)]
	for i := range world {
		world[i] = item(-9, -9, -9, -9)
	}
	for i := range outbox {
		outbox[i] = api.Entry{Seq: -9, Item: item(-9, -9, -9, -9)}
	}
}

func TestAnswersAreNewMemory(t *testing.T) {
	p := roomy(t)
	for k := range 6 {
		mints(t, p, 0, -1, float32(k%2), k+1)
	}
	answers(t, "P9: Tick", p.Tick(0), api.OK)
	marks := api.Marks{Generation: 1, Minted: 6, Sent: 3}
	world := []api.Item{item(0, 1, -1, 0), item(0, 3, -1, 0), item(0, 5, -1, 0)}
	outbox := []api.Entry{{Seq: 1, Item: item(0, 2, 0, 1)}, {Seq: 2, Item: item(0, 4, 0, 1)}, {Seq: 3, Item: item(0, 6, 0, 1)}}
	early := tell(t, p, 0)
	scribble(tell(t, p, 0))
	tells(t, p, 0, marks, world, outbox...)
	if !sameTold(early, told{world, outbox, marks}) {
		t.Errorf("P2: answers share room: %+v", early)
	}
	mints(t, p, 0, -1, 1, 7)
	answers(t, "P9: Tick", p.Tick(0), api.OK)
	scribble(early)
	marks.Minted, marks.Sent = 7, 4
	tells(t, p, 0, marks, world, append(outbox, api.Entry{Seq: 4, Item: item(0, 7, 0, 1)})...)
}

func TestPairsAreApart(t *testing.T) {
	p, q := roomy(t), roomy(t)
	mints(t, p, 0, -1, 1, 1)
	answers(t, "P9: Tick", p.Tick(0), api.OK)
	answers(t, "P7: Break", p.Break(0, 1, 0), api.OK)
	answers(t, "P7: Crash", p.Crash(1, 0), api.OK)
	for i := range 2 {
		tells(t, q, i, api.Marks{Generation: 1}, nil)
		answers(t, "P9: Tick", q.Tick(i), api.OK)
	}
}

// step: a drawn call of shard 0, so that it may be done again on another pair.
type step func(p *Pair) api.Errno

func drawnStep(r *rand.Rand) step {
	place, speed := -r.Float32()*20, (r.Float32()*2-1)*10
	id := api.ID{Number: 1 + r.Intn(12)}
	switch r.Intn(8) {
	case 0, 1, 2:
		return func(p *Pair) api.Errno { _, e := p.Mint(0, place, speed); return e }
	case 3:
		return func(p *Pair) api.Errno { return p.Destroy(0, id) }
	case 4:
		return func(p *Pair) api.Errno { return p.Snapshot(0) }
	}
	return func(p *Pair) api.Errno { return p.Tick(0) }
}

// after: what a shard tells once all these are done, with no crash.
func after(t *testing.T, c api.Config, steps []step) told {
	t.Helper()
	p, _ := New(c)
	for _, s := range steps {
		answers(t, "a step that was done", s(p), api.OK)
	}
	return tell(t, p, 0)
}

// TestDrawnCrashes: behind any crash a call that was answered ErrDown is done as a whole or not at all, and all others are done.
func TestDrawnCrashes(t *testing.T) {
	r := rand.New(rand.NewSource(3))
	halves := [2]int{}
	for range 400 {
		c := api.Config{Items: 1 + r.Intn(16), Outbox: 1 + r.Intn(8), Journal: 100 + r.Intn(300)}
		p, _ := New(c)
		var steps []step
		for range 30 {
			if r.Intn(4) == 0 {
				answers(t, "P7: Break", p.Break(0, r.Intn(7), r.Intn(40)-5), api.OK)
			}
			s := drawnStep(r)
			e := s(p)
			if e == api.OK {
				steps = append(steps, s)
			}
			if e != api.ErrDown && r.Intn(6) == 0 {
				answers(t, "P7: Crash", p.Crash(0, r.Intn(40)-5), api.OK)
				answers(t, "P12: Restart", p.Restart(0), api.OK)
			}
			if e != api.ErrDown {
				continue
			}
			answers(t, "P12: Restart", p.Restart(0), api.OK)
			got := tell(t, p, 0)
			if with := append(steps[:len(steps):len(steps)], s); sameTold(got, after(t, c, with)) {
				steps = with
				halves[1]++
			} else if sameTold(got, after(t, c, steps)) {
				halves[0]++
			} else {
				t.Fatalf("P12: %+v behind a crash, want %+v or %+v", got, after(t, c, steps), after(t, c, with))
			}
		}
		if got, want := tell(t, p, 0), after(t, c, steps); !sameTold(got, want) {
			t.Fatalf("P12: %+v, want %+v", got, want)
		}
	}
	if halves[0] < 100 || halves[1] < 100 {
		t.Errorf("too few crashes of each kind: %v", halves)
	}
}
