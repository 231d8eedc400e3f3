package wire

import (
	"encoding/hex"
	"math"
	"math/rand"
	"reflect"
	"slices"
	"strings"
	"testing"

	"ferry/api"
)

var minus = float32(math.Copysign(0, -1))

// beyond is the first float32 that is too far.
var beyond = math.Nextafter32(api.Far, 2*api.Far)

func item(shard, number int, place, speed float32) api.Item {
	return api.Item{ID: api.ID{Shard: shard, Number: number}, Place: place, Speed: speed}
}

// unhex: the bytes that are written out in hexadecimal, with spaces anywhere.
func unhex(t *testing.T, s string) string {
	t.Helper()
	b, err := hex.DecodeString(strings.ReplaceAll(s, " ", ""))
	if err != nil {
		t.Fatal(err)
	}
	return string(b)
}

// withSum: what is written out in hexadecimal, with its right sum, so that only the rest can be wrong with it.
func withSum(t *testing.T, s string) string {
	t.Helper()
	s = unhex(t, s)
	sum := Sum(s)
	return s + string([]byte{byte(sum >> 8), byte(sum)})
}

// behindLength: a record of a journal.
func behindLength(s string) string {
	return string([]byte{byte(len(s) >> 8), byte(len(s))}) + s
}

// same tells if two records are the same down to the patterns of their floats; an empty list is like none.
func same(a, b api.Record) bool {
	return a.Kind == b.Kind && a.Seq == b.Seq && sameItem(a.Item, b.Item) && a.Marks == b.Marks &&
		slices.EqualFunc(a.Items, b.Items, sameItem) &&
		slices.EqualFunc(a.Outbox, b.Outbox, func(x, y api.Entry) bool { return x.Seq == y.Seq && sameItem(x.Item, y.Item) })
}

func sameItem(a, b api.Item) bool {
	return a.ID == b.ID && math.Float32bits(a.Place) == math.Float32bits(b.Place) && math.Float32bits(a.Speed) == math.Float32bits(b.Speed)
}

// example: a record and all its bytes, the sum too.
type example struct {
	record api.Record
	bytes  string
}

func examples(t *testing.T) []example {
	base := api.Record{
		Kind:   api.Base,
		Marks:  api.Marks{Generation: 0x102, Minted: 0x304, Sent: 0x506, Acked: 0x708, Seen: 0x90a},
		Items:  []api.Item{item(0, 0x0b0c, -0.5, 0.25), item(1, 0x0d0e, minus, 3)},
		Outbox: []api.Entry{{Seq: 1, Item: item(0, 0x0f10, 1.5, minus)}, {Seq: 0x1112, Item: item(0, 0x0f10, 7, -8)}},
	}
	return []example{
		{api.Record{Kind: api.Mint, Item: item(0, 1, -1, 2)}, unhex(t, "01 00 0001 bf800000 40000000 76c5")},
		{api.Record{Kind: api.Mint, Item: item(1, 65535, minus, minus)}, unhex(t, "01 01 ffff 80000000 80000000 3746")},
		{api.Record{Kind: api.Destroy, Item: item(1, 0x1234, 0, 0)}, unhex(t, "02 01 1234 7f83")},
		{api.Record{Kind: api.Tick}, unhex(t, "03 0023")},
		{api.Record{Kind: api.Arrive, Seq: 65535, Item: item(1, 1, 1000, -1000)}, unhex(t, "04 ffff 01 0001 447a0000 c47a0000 0147")},
		{api.Record{Kind: api.Acked}, unhex(t, "05 0000 8b05")},
		{api.Record{Kind: api.Base}, unhex(t, "06 0000 0000 0000 0000 0000 00 00 4819")},
		{base, unhex(t, "06 0102 0304 0506 0708 090a"+
			"02 00 0b0c bf000000 3e800000 01 0d0e 80000000 40400000"+
			"02 0001 00 0f10 3fc00000 80000000 1112 00 0f10 40e00000 c1000000 c10a")},
		{api.Record{Kind: api.Cross, Seq: 1, Item: item(0, 0x102, 0.1, -math.SmallestNonzeroFloat32)}, unhex(t, "07 0001 00 0102 3dcccccd 80000001 96a3")},
		{api.Record{Kind: api.Ack, Seq: 2}, unhex(t, "08 0002 964a")},
		{api.Record{Kind: api.Ack, Seq: 65535}, unhex(t, "08 ffff b628")},
	}
}

func TestSum(t *testing.T) {
	for _, c := range []struct {
		s    string
		want int
	}{
		{"", 1}, {"\x00", 32}, {"\x03", 35}, {"\xff", 287}, {"\xff\xff", 9153}, {"\xff\xff\xff", 21915},
		{"\x08\x00\x02", 38474}, {"é", 7207}, {strings.Repeat("\x00", 5), 33485}, {strings.Repeat("\xff", 1000), 36607},
		{"\x1c\xf5\xe9", 65520}, {"\x1c\xf5\xea", 0}, {"\x1c\xf5\xeb", 1},
	} {
		if got := Sum(c.s); got != c.want {
			t.Errorf("P3: Sum(%q) = %d, want %d", c.s, got, c.want)
		}
	}
}

func TestEncodeWritesEachKind(t *testing.T) {
	for _, c := range examples(t) {
		if got, e := Encode(c.record); got != c.bytes || e != api.OK {
			t.Errorf("P4: Encode(%+v) = %x, %d, want %x", c.record, got, e, c.bytes)
		}
	}
}

func TestDecodeReadsEachKind(t *testing.T) {
	for _, c := range examples(t) {
		if got, e := Decode(c.bytes); !same(got, c.record) || e != api.OK {
			t.Errorf("P4: Decode(%x) = %+v, %d, want %+v", c.bytes, got, e, c.record)
		}
	}
}

// fullBase: a Base of as much as there may be.
func fullBase() api.Record {
	full := api.MaxNumber
	r := api.Record{Kind: api.Base, Marks: api.Marks{Generation: full, Minted: full, Sent: full, Acked: full, Seen: full}}
	for i := range api.MaxItems {
		r.Items = append(r.Items, item(i/8, i%8+1, float32(i), -api.Far))
	}
	for i := range api.MaxOutbox {
		r.Outbox = append(r.Outbox, api.Entry{Seq: full - api.MaxOutbox + 1 + i, Item: item(1, full, api.Far, float32(i))})
	}
	return r
}

func TestTheGreatestBase(t *testing.T) {
	r := fullBase()
	s, e := Encode(r)
	if len(s) != 1+10+1+16*11+1+8*13+2 || e != api.OK {
		t.Fatalf("P4: Encode of the greatest Base: %d bytes, %d", len(s), e)
	}
	if got, e := Decode(s); !same(got, r) || e != api.OK {
		t.Errorf("P4: Decode of it = %+v, %d", got, e)
	}
}

func TestEmptyListsAreNone(t *testing.T) {
	for _, kind := range []int{api.Tick, api.Base} {
		without, _ := Encode(api.Record{Kind: kind})
		s, e := Encode(api.Record{Kind: kind, Items: []api.Item{}, Outbox: []api.Entry{}})
		if s != without || e != api.OK {
			t.Errorf("P4: Encode of the kind %d with empty lists = %x, %d", kind, s, e)
		}
	}
}

func refuse(t *testing.T, r api.Record) {
	t.Helper()
	if s, e := Encode(r); s != "" || e != api.ErrArg {
		t.Errorf("P4: Encode(%+v) = %x, %d, want ErrArg", r, s, e)
	}
}

func TestEncodeRefusesKindsThatAreNone(t *testing.T) {
	for _, kind := range []int{0, 9, -1, 256 + api.Tick, math.MinInt, math.MaxInt} {
		refuse(t, api.Record{Kind: kind})
	}
}

// plainest: of each kind a record that has as little as may be.
func plainest() []api.Record {
	it := item(0, 1, 0, 0)
	return []api.Record{
		{Kind: api.Mint, Item: it}, {Kind: api.Destroy, Item: it}, {Kind: api.Tick}, {Kind: api.Arrive, Seq: 1, Item: it},
		{Kind: api.Acked}, {Kind: api.Base}, {Kind: api.Cross, Seq: 1, Item: it}, {Kind: api.Ack},
	}
}

func TestEncodeRefusesWhatAKindDoesNotHave(t *testing.T) {
	withSeq := []int{api.Arrive, api.Cross, api.Acked, api.Ack}
	withFloats := []int{api.Mint, api.Arrive, api.Cross}
	for _, r := range plainest() {
		if _, e := Encode(r); e != api.OK {
			t.Fatalf("P4: Encode(%+v) = %d", r, e)
		}
		var wrong []api.Record
		add := func(change func(*api.Record)) {
			x := r
			change(&x)
			wrong = append(wrong, x)
		}
		if !slices.Contains(withSeq, r.Kind) {
			add(func(x *api.Record) { x.Seq = 1 })
			add(func(x *api.Record) { x.Seq = -1 })
		}
		if r.Item.ID.Number == 0 {
			add(func(x *api.Record) { x.Item.ID.Shard = 1 })
			add(func(x *api.Record) { x.Item.ID.Number = 1 })
		}
		if !slices.Contains(withFloats, r.Kind) {
			for _, f := range []float32{1, minus, float32(math.NaN())} {
				add(func(x *api.Record) { x.Item.Place = f })
				add(func(x *api.Record) { x.Item.Speed = f })
			}
		}
		if r.Kind != api.Base {
			add(func(x *api.Record) { x.Marks.Generation = 1 })
			add(func(x *api.Record) { x.Marks.Minted = 1 })
			add(func(x *api.Record) { x.Marks.Sent = 1 })
			add(func(x *api.Record) { x.Marks.Acked = 1 })
			add(func(x *api.Record) { x.Marks.Seen = -1 })
			add(func(x *api.Record) { x.Items = []api.Item{item(0, 1, 0, 0)} })
			add(func(x *api.Record) { x.Outbox = []api.Entry{{Seq: 1, Item: item(0, 1, 0, 0)}} })
		}
		for _, x := range wrong {
			refuse(t, x)
		}
	}
}

// strangeThings: things that may not be.
func strangeThings() []api.Item {
	l := []api.Item{{}, item(-1, 1, 0, 0), item(2, 1, 0, 0), item(256, 1, 0, 0), item(0, 0, 0, 0), item(1, -1, 0, 0), item(1, 65536, 0, 0), item(0, 65537, 0, 0)}
	for _, f := range []float32{beyond, -beyond, math.MaxFloat32, float32(math.Inf(1)), float32(math.Inf(-1)), float32(math.NaN())} {
		l = append(l, item(0, 1, f, 0), item(0, 1, 0, f))
	}
	return l
}

func TestEncodeRefusesThingsThatMayNotBe(t *testing.T) {
	for _, it := range strangeThings() {
		refuse(t, api.Record{Kind: api.Mint, Item: it})
		refuse(t, api.Record{Kind: api.Destroy, Item: it})
		refuse(t, api.Record{Kind: api.Arrive, Seq: 1, Item: it})
		refuse(t, api.Record{Kind: api.Cross, Seq: 1, Item: it})
		refuse(t, api.Record{Kind: api.Base, Items: []api.Item{it}})
		refuse(t, api.Record{Kind: api.Base, Outbox: []api.Entry{{Seq: 1, Item: it}}})
	}
}

func TestEncodeRefusesNumbersOutOfBounds(t *testing.T) {
	it := item(0, 1, 0, 0)
	for _, n := range []int{-1, 65536, math.MinInt, math.MaxInt} {
		refuse(t, api.Record{Kind: api.Acked, Seq: n})
		refuse(t, api.Record{Kind: api.Ack, Seq: n})
		for _, m := range []api.Marks{{Generation: n}, {Minted: n}, {Sent: n}, {Acked: n}, {Seen: n}} {
			refuse(t, api.Record{Kind: api.Base, Marks: m})
		}
	}
	for _, n := range []int{0, -1, 65536, math.MinInt, math.MaxInt} {
		refuse(t, api.Record{Kind: api.Arrive, Seq: n, Item: it})
		refuse(t, api.Record{Kind: api.Cross, Seq: n, Item: it})
		refuse(t, api.Record{Kind: api.Base, Outbox: []api.Entry{{Seq: n, Item: it}}})
	}
}

func TestEncodeRefusesListsOfABase(t *testing.T) {
	it := item(0, 1, 0, 0)
	for _, items := range [][]api.Item{
		{it, it}, {item(0, 2, 0, 0), it}, {item(1, 1, 0, 0), item(0, 2, 0, 0)}, {it, item(0, 3, 0, 0), item(0, 2, 0, 0)},
	} {
		refuse(t, api.Record{Kind: api.Base, Items: items})
	}
	for _, seqs := range [][]int{{1, 1}, {2, 1}, {1, 3, 2}, {1, 0}} {
		r := api.Record{Kind: api.Base}
		for i, seq := range seqs {
			r.Outbox = append(r.Outbox, api.Entry{Seq: seq, Item: item(0, i+1, 0, 0)})
		}
		refuse(t, r)
	}
	var items []api.Item
	var outbox []api.Entry
	for i := range 300 {
		items = append(items, item(0, i+1, 0, 0))
		outbox = append(outbox, api.Entry{Seq: i + 1, Item: it})
	}
	for _, n := range []int{api.MaxItems + 1, 256, 257, 300} {
		refuse(t, api.Record{Kind: api.Base, Items: items[:n]})
	}
	for _, n := range []int{api.MaxOutbox + 1, 256, 257, 300} {
		refuse(t, api.Record{Kind: api.Base, Outbox: outbox[:n]})
	}
}

func noRecord(t *testing.T, s string) {
	t.Helper()
	if r, e := Decode(s); !reflect.DeepEqual(r, api.Record{}) || e != api.ErrBytes {
		t.Errorf("P4: Decode(%x) = %+v, %d, want ErrBytes", s, r, e)
	}
}

func TestDecodeRefusesWhatIsSpoilt(t *testing.T) {
	for _, c := range examples(t) {
		for k := range len(c.bytes) {
			noRecord(t, c.bytes[:k])
			for d := 1; d < 256; d++ {
				b := []byte(c.bytes)
				b[k] += byte(d)
				noRecord(t, string(b))
			}
		}
		noRecord(t, c.bytes+"\x00")
		noRecord(t, "\x00"+c.bytes)
		noRecord(t, c.bytes+c.bytes)
	}
}

func TestDecodeRefusesRightSumsOfWhatMayNotBe(t *testing.T) {
	noRecord(t, "")
	noRecord(t, "\x03")
	noRecord(t, strings.Repeat("\x00", 100))
	noRecord(t, strings.Repeat("\xff", 70000))
	thing := "00 0001 00000000 00000000"
	marks := "0000 0000 0000 0000 0000"
	for _, s := range []string{
		"", "00", "09", "ff", // no kinds
		"03 00", "08 0002 00", "08 02", "02 00 0001 00", "05", "01", "06", // too long, too short
		"01 02 0001 00000000 00000000", "01 00 0000 00000000 00000000", // IDs
		"01 00 0001 447a0001 00000000", "01 00 0001 00000000 c47a0001", // too far
		"01 00 0001 7f800000 00000000", "01 00 0001 00000000 ff800000", // infinite
		"01 00 0001 7fc00000 00000000", "01 00 0001 7f800001 00000000", "01 00 0001 00000000 ffffffff", // no numbers
		"02 02 0001", "02 00 0000", "02" + thing,
		"04 0000" + thing, "07 0000" + thing,
		"06" + marks + "01 00", "06" + marks + "00 01", "06" + marks + "ff 00", "06" + marks + "00 ff", "06" + marks + "00",
		"06" + marks + "02" + thing + thing + "00",
		"06" + marks + "02 01 0001 00000000 00000000" + thing + "00",
		"06" + marks + "00 01 0000" + thing,
		"06" + marks + "00 02 0001" + thing + "0001" + thing,
		"06" + marks + "00 01 0001 02 0001 00000000 00000000",
	} {
		noRecord(t, withSum(t, s))
	}
}

func TestDecodeRefusesListsThatAreTooLong(t *testing.T) {
	marks := strings.Repeat("00", 10)
	items, outbox := "", ""
	for i := range 17 {
		items += "00 00" + hex.EncodeToString([]byte{byte(i + 1)}) + "00000000 00000000"
	}
	for i := range 9 {
		outbox += "00" + hex.EncodeToString([]byte{byte(i + 1)}) + "00 0001 00000000 00000000"
	}
	noRecord(t, withSum(t, "06"+marks+"11"+items+"00"))
	noRecord(t, withSum(t, "06"+marks+"00 09"+outbox))
}

// drawnRecord: a record that may be, of any kind, with drawn numbers.
func drawnRecord(r *rand.Rand) api.Record {
	drawn := func() api.Item {
		return item(r.Intn(2), 1+r.Intn(65535), (r.Float32()*2-1)*api.Far, (r.Float32()*2-1)*api.Far)
	}
	x := api.Record{Kind: 1 + r.Intn(8)}
	switch x.Kind {
	case api.Mint:
		x.Item = drawn()
	case api.Destroy:
		x.Item.ID = drawn().ID
	case api.Arrive, api.Cross:
		x.Seq, x.Item = 1+r.Intn(65535), drawn()
	case api.Acked, api.Ack:
		x.Seq = r.Intn(65536)
	case api.Base:
		x.Marks = api.Marks{Generation: r.Intn(65536), Minted: r.Intn(65536), Sent: r.Intn(65536), Acked: r.Intn(65536), Seen: r.Intn(65536)}
		for number := r.Intn(100) + 1; len(x.Items) < r.Intn(17); number += 1 + r.Intn(99) {
			it := drawn()
			it.ID = api.ID{Shard: number / 800, Number: number}
			x.Items = append(x.Items, it)
		}
		for seq := r.Intn(100) + 1; len(x.Outbox) < r.Intn(9); seq += 1 + r.Intn(99) {
			x.Outbox = append(x.Outbox, api.Entry{Seq: seq, Item: drawn()})
		}
	}
	return x
}

func TestDrawnRecordsBackAndForth(t *testing.T) {
	r := rand.New(rand.NewSource(1))
	for range 5000 {
		x := drawnRecord(r)
		s, e := Encode(x)
		if e != api.OK {
			t.Fatalf("P4: Encode(%+v) = %d", x, e)
		}
		if y, e := Decode(s); !same(x, y) || e != api.OK {
			t.Fatalf("P4: Decode(%x) = %+v, %d, want %+v", s, y, e, x)
		}
	}
}

// TestDrawnBytes: bytes of which many look like a record, with right sums: whatever is taken must be what Encode gives.
func TestDrawnBytes(t *testing.T) {
	r := rand.New(rand.NewSource(2))
	taken := 0
	for range 20000 {
		b := make([]byte, 1+r.Intn(40))
		for i := range b {
			b[i] = byte(r.Intn(256) * r.Intn(2))
		}
		b[0] = byte(r.Intn(10))
		s := withSum(t, hex.EncodeToString(b))
		x, e := Decode(s)
		if e != api.OK {
			noRecord(t, s)
			continue
		}
		taken++
		if again, e := Encode(x); again != s || e != api.OK {
			t.Fatalf("P4: Decode takes %x, but Encode gives %x, %d", s, again, e)
		}
	}
	if taken == 0 {
		t.Error("no bytes were taken")
	}
}

func TestScanTakesWhatIsThere(t *testing.T) {
	tick, ack := unhex(t, "0003 03 0023"), unhex(t, "0005 08 0002 964a")
	isTick, isAck := api.Record{Kind: api.Tick}, api.Record{Kind: api.Ack, Seq: 2}
	for _, c := range []struct {
		s       string
		records []api.Record
		n       int
	}{
		{"", nil, 0},
		{tick, []api.Record{isTick}, 5},
		{tick + ack + tick, []api.Record{isTick, isAck, isTick}, 17},
		{tick + tick[:1], []api.Record{isTick}, 5},                            // half a length
		{tick + tick[:2], []api.Record{isTick}, 5},                            // a length alone
		{tick + ack[:6], []api.Record{isTick}, 5},                             // cut off
		{tick + "\x00\x00" + tick, []api.Record{isTick}, 5},                   // nothing is no record
		{unhex(t, "0003 03 0024") + tick, nil, 0},                             // a wrong sum
		{ack + unhex(t, "0002 03 00 23") + tick, []api.Record{isAck}, 7},      // a length that is too small
		{ack + unhex(t, "0004 03 0023 00") + tick, []api.Record{isAck}, 7},    // one that is too great
		{ack + unhex(t, "0300 03 0023") + tick, []api.Record{isAck}, 7},       // its lower byte first
		{ack + "\xff\xff" + strings.Repeat(tick, 10), []api.Record{isAck}, 7}, // more than there is
		{ack + "\xff\xff" + strings.Repeat("\x03", 70000), []api.Record{isAck}, 7},
		{tick[2:], nil, 0}, // no length
	} {
		l, n := Scan(c.s)
		if !slices.EqualFunc(l, c.records, same) || n != c.n {
			t.Errorf("P5: Scan(%x) = %+v, %d, want %+v, %d", c.s, l, n, c.records, c.n)
		}
	}
}

// TestScanOfAJournalCutOffAnywhere: also where the bytes behind the cut are others.
func TestScanOfAJournalCutOffAnywhere(t *testing.T) {
	var records []api.Record
	ends := []int{0}
	journal := ""
	for _, c := range append(examples(t), example{fullBase(), ""}) {
		s, _ := Encode(c.record)
		journal += behindLength(s)
		records = append(records, c.record)
		ends = append(ends, len(journal))
	}
	for k := range len(journal) + 1 {
		whole := 0
		for whole+1 < len(ends) && ends[whole+1] <= k {
			whole++
		}
		for _, tail := range []string{"", "\x00", "\x00\x00\x00"} {
			if tail != "" && strings.HasPrefix(journal[k:], tail[:1]) {
				continue
			}
			l, n := Scan(journal[:k] + tail)
			if !slices.EqualFunc(l, records[:whole], same) || n != ends[whole] {
				t.Fatalf("P5: Scan of the first %d bytes and %x: %d records of %d bytes, want %d of %d", k, tail, len(l), n, whole, ends[whole])
			}
		}
	}
}

func TestScanOfALongJournal(t *testing.T) {
	const many = 100000
	l, n := Scan(strings.Repeat(behindLength("\x03\x00\x23"), many))
	if len(l) != many || n != 5*many {
		t.Errorf("P5: Scan of %d Ticks: %d records of %d bytes", many, len(l), n)
	}
}

func TestEncodeLeavesItsListsAlone(t *testing.T) {
	r, want := fullBase(), fullBase()
	spare := item(1, 99, 5, 5)
	r.Items = append(r.Items, spare)[:len(r.Items)]
	Encode(r)
	if !same(r, want) || r.Items[:len(r.Items)+1][len(r.Items)] != spare {
		t.Errorf("P2: Encode wrote into what was handed in: %+v", r)
	}
}

// scribble writes over all room that a record's lists have.
func scribble(r api.Record) {
	items, outbox := r.Items[:cap(r.Items)], r.Outbox[:cap(r.Outbox)]
	for i := range items {
		items[i] = item(-9, -9, -9, -9)
	}
	for i := range outbox {
		outbox[i] = api.Entry{Seq: -9, Item: item(-9, -9, -9, -9)}
	}
}

func TestAnswersShareNoRoom(t *testing.T) {
	want := fullBase()
	s, _ := Encode(want)
	first, _ := Decode(s)
	second, _ := Decode(s)
	scribble(first)
	if !same(second, want) {
		t.Errorf("P2: what one Decode answers changes with what another answered: %+v", second)
	}
	l, _ := Scan(strings.Repeat(behindLength(s), 3))
	other, _ := Scan(strings.Repeat(behindLength(s), 3))
	for i := range l {
		scribble(l[i])
		for _, r := range l[i+1:] {
			if !same(r, want) {
				t.Errorf("P2: a record of Scan changes with its record %d: %+v", i, r)
			}
		}
	}
	clear(l[:cap(l)])
	for _, r := range other {
		if !same(r, want) {
			t.Errorf("P2: what one Scan answers changes with what another answered: %+v", r)
		}
	}
}
