// Package shard: one shard, its disk, and the journals there: see DOC.md, P6 to P13.
package shard

import (
	"ferry/api"
	"ferry/disk"
	"ferry/thing"
	"ferry/wire"
)

// Shard is one of the two. Its disk outlives a crash, all else is told by that again.
type Shard struct {
	number int
	config api.Config
	disk   *disk.Disk
	up     bool
	counts int // which file of the disk counts
	has    state
}

// New makes a shard that is up and has nothing. It is restarted from its first Base, which is there whatever room a journal has.
func New(number int, c api.Config) *Shard {
	base := api.Record{Kind: api.Base, Marks: api.Marks{Generation: 1}}
	s := &Shard{number: number, config: c, disk: disk.New(framed(base))}
	s.Restart()
	return s
}

// encoded is a record as bytes. None is refused, since a shard makes only such as may be.
func encoded(r api.Record) string {
	bytes, _ := wire.Encode(r)
	return bytes
}

// framed is a record as it stands in a journal: behind its length.
func framed(r api.Record) string {
	body := encoded(r)
	length := []byte{byte(len(body) >> 8), byte(len(body))}
	return string(length) + body
}

// Up tells if the shard is up. While it is not, it has nothing: only Break, Restart and File are of use.
func (s *Shard) Up() bool {
	return s.up
}

// journal writes a record behind those of the file that counts, and only then does what it tells (P8).
func (s *Shard) journal(r api.Record) api.Errno {
	bytes := framed(r)
	if len(s.disk.File(s.counts))+len(bytes) > s.config.Journal {
		return api.ErrFull
	}
	if !s.disk.Append(s.counts, bytes) || !s.disk.Sync(s.counts) {
		return s.fall()
	}
	s.do(r)
	return api.OK
}

// fall takes the shard down once its disk has crashed.
func (s *Shard) fall() api.Errno {
	s.up = false
	s.has = state{}
	return api.ErrDown
}

// Mint makes a thing (P8).
func (s *Shard) Mint(place, speed float32) (api.ID, api.Errno) {
	if !thing.DriftMayBe(place, speed) || thing.Side(place) != s.number {
		return api.ID{}, api.ErrArg
	}
	if s.full() || s.has.marks.Minted == api.MaxNumber {
		return api.ID{}, api.ErrQuota
	}
	id := api.ID{Shard: s.number, Number: s.has.marks.Minted + 1}
	e := s.journal(api.Record{Kind: api.Mint, Item: api.Item{ID: id, Place: place, Speed: speed}})
	if e != api.OK {
		return api.ID{}, e
	}
	return id, api.OK
}

func (s *Shard) full() bool {
	return len(s.has.things) >= s.config.Items
}

// Destroy ends a thing (P8).
func (s *Shard) Destroy(id api.ID) api.Errno {
	if _, there := s.has.things[id]; !there {
		return api.ErrNone
	}
	return s.journal(api.Record{Kind: api.Destroy, Item: api.Item{ID: id}})
}

// Tick lets the things drift (P9).
func (s *Shard) Tick() api.Errno {
	return s.journal(api.Record{Kind: api.Tick})
}

// Snapshot begins a new journal in the file that does not count, which counts once it lasts (P11).
func (s *Shard) Snapshot() api.Errno {
	if s.has.marks.Generation == api.MaxNumber {
		return api.ErrFull
	}
	base := s.has.base()
	base.Marks.Generation++
	bytes := framed(base)
	if len(bytes) > s.config.Journal {
		return api.ErrFull
	}
	other := 1 - s.counts
	if !s.disk.Cut(other) || !s.disk.Append(other, bytes) || !s.disk.Sync(other) {
		return s.fall()
	}
	s.counts = other
	s.has.marks = base.Marks
	return api.OK
}

// Break lets a later act of the disk fail (P7).
func (s *Shard) Break(k, keep int) api.Errno {
	if k < 0 {
		return api.ErrArg
	}
	s.disk.Break(k, keep)
	return api.OK
}

// Crash takes the shard down (P7).
func (s *Shard) Crash(keep int) {
	s.disk.Crash(keep)
	s.fall()
}

// Restart brings a shard up that is down, as its disk tells it (P12).
func (s *Shard) Restart() api.Errno {
	if s.up {
		return api.ErrArg
	}
	s.counts = 0
	records, taken := wire.Scan(s.disk.File(0))
	if others, n := wire.Scan(s.disk.File(1)); generation(others) > generation(records) {
		s.counts, records, taken = 1, others, n
	}
	s.disk.Shorten(s.counts, taken)
	for _, r := range records {
		s.do(r)
	}
	s.up = true
	return api.OK
}

// generation is that of a journal; one that does not begin with a Base is below any that does.
func generation(records []api.Record) int {
	if len(records) == 0 || records[0].Kind != api.Base {
		return -1
	}
	return records[0].Marks.Generation
}

// World is the shard's things, in their order (P13).
func (s *Shard) World() []api.Item {
	return s.has.inOrder()
}

// Outbox is the entries of its outbox, by rising Seq (P13).
func (s *Shard) Outbox() []api.Entry {
	return s.has.entries()
}

// Marks is the shard's marks (P13).
func (s *Shard) Marks() api.Marks {
	return s.has.marks
}

// File is the bytes of a file of its disk (P13).
func (s *Shard) File(n int) (string, api.Errno) {
	if n < 0 || n >= disk.Files {
		return "", api.ErrNone
	}
	return s.disk.File(n), api.OK
}
