package ferry

import (
	"math/rand"
	"slices"
	"testing"

	"ferry/api"
)

// move: a drawn call, so that it may be done again on another pair. Nothing is injected.
type move struct {
	name  string
	shard int
	id    api.ID // of a Destroy
	do    func(*Pair) api.Errno
	lost  func(*Pair) // what comes of it if the shard goes down ahead of having done it, or was down
	quiet func(*Pair) // what comes of it if the shard has done it, and then goes down
}

func drawnMove(r *rand.Rand) move {
	shard, k, n := r.Intn(2), r.Intn(4), r.Intn(18)-1
	place, speed := (float32(shard)-r.Float32())*900, (r.Float32()*2-1)*700
	m := move{name: "Tick", shard: shard, id: api.ID{Shard: r.Intn(2), Number: 1 + r.Intn(6)}, lost: func(*Pair) {}}
	m.do = func(p *Pair) api.Errno { return p.Tick(shard) }
	switch r.Intn(20) {
	case 0, 1:
		m.name, m.do = "Mint", func(p *Pair) api.Errno { _, e := p.Mint(shard, place, speed); return e }
	case 2:
		m.name, m.do = "Destroy", func(p *Pair) api.Errno { return p.Destroy(shard, m.id) }
	case 3, 4, 5:
		m.name, m.do = "Send", func(p *Pair) api.Errno { return p.Send(shard) }
	case 6, 7, 8, 9, 10, 11:
		m.name, m.do = "Deliver", func(p *Pair) api.Errno { return p.Deliver(shard, k) }
		m.lost = func(p *Pair) { p.Drop(shard, k) }
		m.quiet = func(p *Pair) { deliverQuietly(p, shard, k) }
		return m
	case 12:
		m.name, m.do = "Drop", func(p *Pair) api.Errno { return p.Drop(shard, k) }
	case 13:
		m.name, m.do = "Double", func(p *Pair) api.Errno { return p.Double(shard, k) }
	case 14:
		m.name, m.do = "Spoil", func(p *Pair) api.Errno { return p.Spoil(shard, k, n) }
	case 15:
		m.name, m.do = "Snapshot", func(p *Pair) api.Errno { return p.Snapshot(shard) }
	}
	m.quiet = func(p *Pair) { m.do(p) }
	if m.name == "Drop" || m.name == "Double" || m.name == "Spoil" {
		m.lost = m.quiet // a shard that is down does not matter to them
	}
	return m
}

// deliverQuietly delivers a datagram without the Ack that comes of it.
func deliverQuietly(p *Pair, shard, k int) {
	before, _ := p.Flight(1 - shard)
	p.Deliver(shard, k)
	if after, _ := p.Flight(1 - shard); len(after) > len(before) {
		p.Drop(1-shard, len(before))
	}
}

// all: what is told of a pair, as far as its shards are up, and the journals that count.
type all struct {
	shards   [2]told
	journals [2]string
	flights  [2][]string
}

// allOf: journals of odd generations are in file 0.
func allOf(t *testing.T, p *Pair, down [2]bool) all {
	t.Helper()
	var a all
	for i := range 2 {
		a.flights[i], _ = p.Flight(i)
		if !down[i] {
			a.shards[i] = tell(t, p, i)
			a.journals[i] = both(t, p, i)[(a.shards[i].marks.Generation+1)%2]
		}
	}
	return a
}

func sameAll(a, b all) bool {
	for i := range 2 {
		if !sameTold(a.shards[i], b.shards[i]) || a.journals[i] != b.journals[i] || !slices.Equal(a.flights[i], b.flights[i]) {
			return false
		}
	}
	return true
}

// twin: a pair that has done all this with no crash.
func twin(c api.Config, done []func(*Pair)) *Pair {
	p, _ := New(c)
	for _, f := range done {
		f(p)
	}
	return p
}

// TestDrawnTwins: a pair whose shards crash is always as one whose shards do not, on which each call that was answered ErrDown was done as a whole or not at all (P14).
func TestDrawnTwins(t *testing.T) {
	r := rand.New(rand.NewSource(10))
	count := map[string]int{}
	for range 150 {
		c := api.Config{Items: 1 + r.Intn(6), Outbox: 1 + r.Intn(4), Journal: 150 + r.Intn(200)}
		p, _ := New(c)
		down := [2]bool{}
		var done []func(*Pair)
		for range 100 {
			m := drawnMove(r)
			s := m.shard
			if down[s] && r.Intn(3) == 0 {
				answers(t, "P12: Restart", p.Restart(s), api.OK)
				down[s] = false
			}
			if r.Intn(4) == 0 {
				answers(t, "P7: Break", p.Break(s, r.Intn(5), r.Intn(40)-5), api.OK)
			}
			wasDown := down[s]
			e := m.do(p)
			switch {
			case wasDown:
				done = append(done, m.lost)
			case e != api.ErrDown:
				done = append(done, func(q *Pair) { answers(t, m.name+" of the twin", m.do(q), e) })
			default:
				answers(t, "P12: Restart", p.Restart(s), api.OK)
				undone := append(slices.Clone(done), m.lost)
				done = append(done, m.quiet)
				if got := allOf(t, p, down); !sameAll(got, allOf(t, twin(c, done), down)) {
					done = undone
					count[m.name+" undone"]++
				} else {
					count[m.name+" done"]++
				}
			}
			if !down[s] && r.Intn(8) == 0 {
				answers(t, "P7: Crash", p.Crash(s, r.Intn(40)-5), api.OK)
				down[s] = true
			}
			if got, want := allOf(t, p, down), allOf(t, twin(c, done), down); !sameAll(got, want) {
				t.Fatalf("P14: behind a %s = %d: %+v, %x, %x, want %+v, %x, %x", m.name, e, got.shards, got.journals, got.flights, want.shards, want.journals, want.flights)
			}
		}
	}
	for _, name := range []string{"Mint", "Tick", "Deliver", "Snapshot"} {
		if count[name+" done"] == 0 || count[name+" undone"] == 0 {
			t.Errorf("too few crashes of each kind: %v", count)
		}
	}
}

// watch: what a caller knows of the things of a pair.
type watch struct {
	*Pair
	down    [2]bool
	alive   map[api.ID]bool
	unknown [2]map[string]api.ID // by the name of the call that was answered ErrDown
	marks   [2]api.Marks         // the last that were told
	crossed int
}

// moves does a move, and keeps in mind what the answer tells of the things.
func (w *watch) moves(m move) {
	marks, _ := w.Marks(m.shard)
	e := m.do(w.Pair)
	if m.name == "Mint" {
		m.id = api.ID{Shard: m.shard, Number: marks.Minted + 1}
	}
	if e == api.ErrDown && !w.down[m.shard] {
		w.down[m.shard] = true
		w.unknown[m.shard] = map[string]api.ID{m.name: m.id}
	}
	if e == api.OK && m.name == "Mint" {
		w.alive[m.id] = true
	}
	if e == api.OK && m.name == "Destroy" {
		delete(w.alive, m.id)
	}
}

// restarts brings a shard up, and looks what has become of the call that it went down in.
func (w *watch) restarts(t *testing.T, shard int) {
	t.Helper()
	answers(t, "P12: Restart", w.Restart(shard), api.OK)
	w.down[shard] = false
	got := tell(t, w.Pair, shard)
	if id, ok := w.unknown[shard]["Mint"]; ok && got.marks.Minted >= id.Number {
		w.alive[id] = true
	}
	if id, ok := w.unknown[shard]["Destroy"]; ok && !slices.ContainsFunc(got.world, func(x api.Item) bool { return x.ID == id }) {
		delete(w.alive, id)
	}
	w.unknown[shard] = nil
}

// looks: the marks do not fall, and each thing is in just one place.
func (w *watch) looks(t *testing.T) {
	t.Helper()
	for i := range 2 {
		if w.down[i] {
			continue
		}
		marks, before := tell(t, w.Pair, i).marks, w.marks[i]
		if marks.Sent < before.Sent || marks.Acked < before.Acked || marks.Seen < before.Seen {
			t.Fatalf("P14: marks have fallen to %+v, were %+v", marks, before)
		}
		w.marks[i] = marks
	}
	if w.down[0] || w.down[1] {
		return
	}
	places := map[api.ID]int{}
	for i := range 2 {
		own, peer := tell(t, w.Pair, i), tell(t, w.Pair, 1-i)
		if own.marks.Acked > peer.marks.Seen || peer.marks.Seen > own.marks.Sent {
			t.Fatalf("P14: acked, seen, sent: %d, %d, %d", own.marks.Acked, peer.marks.Seen, own.marks.Sent)
		}
		for _, x := range own.world {
			places[x.ID]++
			if x.ID.Shard != i {
				w.crossed++
			}
		}
		for _, entry := range own.outbox {
			if entry.Seq > peer.marks.Seen {
				places[entry.Item.ID]++
			}
		}
	}
	for id := range w.alive {
		if places[id] != 1 {
			t.Fatalf("P14: %v is in %d places", id, places[id])
		}
	}
	if len(places) != len(w.alive) {
		t.Fatalf("P14: things in %v, want %v", places, w.alive)
	}
}

// settles: once nothing goes wrong any more, all things come through to a world.
func (w *watch) settles(t *testing.T) {
	t.Helper()
	for i := range 2 {
		if w.down[i] {
			w.restarts(t, i)
		}
		answers(t, "P7: Break", w.Break(i, 0, 0), api.OK)
		l, _ := w.Flight(i)
		for range l { // so that no Ack finds a flight that is full
			answers(t, "P10: Drop", w.Drop(i, 0), api.OK)
		}
	}
	for i := range 2 {
		sends(t, w.Pair, i)
		w.deliversAll(t, 1-i)
		w.deliversAll(t, i)
	}
	there := 0
	for i := range 2 {
		got := tell(t, w.Pair, i)
		there += len(got.world)
		if len(got.outbox) > 0 {
			t.Fatalf("P14: %+v do not come through", got.outbox)
		}
	}
	if there != len(w.alive) {
		t.Fatalf("P14: %d things in the worlds, want %d", there, len(w.alive))
	}
}

// deliversAll: all that is under way to a shard, with a journal that has room each time.
func (w *watch) deliversAll(t *testing.T, shard int) {
	t.Helper()
	l, _ := w.Flight(shard)
	for range l {
		answers(t, "P11: Snapshot", w.Snapshot(shard), api.OK)
		answers(t, "P10: Deliver", w.Deliver(shard, 0), api.OK)
		w.looks(t)
	}
}

// TestEachThingIsInJustOnePlace: whatever is lost, doubled or cut off, and whoever crashes (P14).
func TestEachThingIsInJustOnePlace(t *testing.T) {
	r := rand.New(rand.NewSource(14))
	crossed, settled := 0, 0
	for range 400 {
		items := 1 + r.Intn(16)
		w := &watch{Pair: fresh(t, items, 1+r.Intn(8), 350+r.Intn(1000)), alive: map[api.ID]bool{}}
		for range 150 {
			m := drawnMove(r)
			switch {
			case w.down[m.shard] && r.Intn(3) == 0:
				w.restarts(t, m.shard)
			case !w.down[m.shard] && r.Intn(25) == 0:
				answers(t, "P7: Crash", w.Crash(m.shard, r.Intn(40)-5), api.OK)
				w.down[m.shard] = true
			case r.Intn(12) == 0:
				answers(t, "P7: Break", w.Break(m.shard, r.Intn(5), r.Intn(40)-5), api.OK)
			}
			w.looks(t)
			w.moves(m)
			w.looks(t)
		}
		crossed += w.crossed
		if len(w.alive) <= items {
			w.settles(t)
			settled++
		}
	}
	if crossed < 1000 || settled < 100 {
		t.Errorf("too little has come over: %d things, %d times all of them", crossed, settled)
	}
}

// drawnDatagram: of a Cross or an Ack that may be right, or nearly so.
func drawnDatagram(t *testing.T, r *rand.Rand) string {
	t.Helper()
	seq := 1 + r.Intn(6)
	if r.Intn(2) == 0 {
		return ackOf(t, seq-1)
	}
	return crossOf(t, seq, item(r.Intn(2), 1+r.Intn(6), (r.Float32()*2-1)*900, (r.Float32()*2-1)*700))
}

// TestDrawnInjections: whatever is injected, a shard keeps to its settings, and a crash changes nothing.
func TestDrawnInjections(t *testing.T) {
	r := rand.New(rand.NewSource(21))
	arrived := 0
	for range 300 {
		c := api.Config{Items: 1 + r.Intn(4), Outbox: 1 + r.Intn(3), Journal: 200 + r.Intn(300)}
		p := fresh(t, c.Items, c.Outbox, c.Journal)
		for range 80 {
			m := drawnMove(r)
			m.do(p)
			injects(t, p, m.shard, drawnDatagram(t, r))
			l, _ := p.Flight(m.shard)
			if len(l) > api.MaxFlight {
				t.Fatalf("P10: %d datagrams are under way", len(l))
			}
			p.Deliver(m.shard, len(l)-1)
			got := tell(t, p, m.shard)
			if len(got.world) > c.Items || len(got.outbox) > c.Outbox || len(both(t, p, m.shard)[0]) > c.Journal {
				t.Fatalf("P10: with %+v: %+v", c, got)
			}
			for _, x := range got.world {
				if (x.Place < 0) != (m.shard == 0) || x.ID.Shard == m.shard && x.ID.Number > got.marks.Minted {
					t.Fatalf("P10: %+v has come to shard %d: %+v", x, m.shard, got)
				}
			}
			arrived += got.marks.Seen
			again(t, p, m.shard)
			if after := tell(t, p, m.shard); !sameTold(got, after) {
				t.Fatalf("P12: %+v behind a crash, was %+v", after, got)
			}
		}
	}
	if arrived == 0 {
		t.Errorf("nothing has arrived")
	}
}
