// Package disk: a shard's two files, of which a crash leaves what lasts: see DOC.md, P7.
package disk

// Files is how many files a disk has; they are numbered from 0 on.
const Files = 2

type file struct {
	bytes   string
	lasting int // so many of them, from the first on
}

// Disk does acts on its files; each act tells if it was done, and one that was not has crashed the disk.
type Disk struct {
	files [Files]file
	until int // which act from now on fails: 1 is the next one; 0: none does
	keep  int // what that act's crash keeps
}

// New makes a disk whose file 0 has these bytes, which last, and whose file 1 is empty.
func New(first string) *Disk {
	d := new(Disk)
	d.files[0] = file{bytes: first, lasting: len(first)}
	return d
}

// Append puts bytes behind a file's. If it fails they are there, but do not last, so that the crash may keep some.
func (d *Disk) Append(n int, bytes string) bool {
	d.files[n].bytes += bytes
	return d.act()
}

// Sync lets all bytes of a file last.
func (d *Disk) Sync(n int) bool {
	if !d.act() {
		return false
	}
	d.files[n].lasting = len(d.files[n].bytes)
	return true
}

// Cut empties a file, and that lasts.
func (d *Disk) Cut(n int) bool {
	if !d.act() {
		return false
	}
	d.files[n] = file{}
	return true
}

// act counts an act, and crashes the disk if it is the one to fail.
func (d *Disk) act() bool {
	if d.until == 0 {
		return true
	}
	d.until--
	if d.until > 0 {
		return true
	}
	d.Crash(d.keep)
	return false
}

// Break lets the k-th act from now on fail, and its crash keep so much; 0: none fails.
func (d *Disk) Break(k, keep int) {
	d.until, d.keep = k, keep
}

// Crash leaves of each file what lasts and the first keep bytes behind that; no act is to fail any more.
func (d *Disk) Crash(keep int) {
	for n := range d.files {
		f := &d.files[n]
		loose := len(f.bytes) - f.lasting
		d.Shorten(n, f.lasting+min(max(keep, 0), loose))
	}
	d.Break(0, 0)
}

// Shorten leaves the first bytes of a file, which last. It is no act.
func (d *Disk) Shorten(n, size int) {
	d.files[n] = file{bytes: d.files[n].bytes[:size], lasting: size}
}

// File is the bytes of a file.
func (d *Disk) File(n int) string {
	return d.files[n].bytes
}
