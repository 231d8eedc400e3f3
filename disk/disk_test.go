package disk

import (
	"math"
	"testing"
)

func files(t *testing.T, d *Disk, want ...string) {
	t.Helper()
	for n, s := range want {
		if got := d.File(n); got != s {
			t.Fatalf("P7: file %d has %q, want %q", n, got, s)
		}
	}
}

func done(t *testing.T, what string, got, want bool) {
	t.Helper()
	if got != want {
		t.Fatalf("P7: %s was done: %v, want %v", what, got, want)
	}
}

func TestANewDisk(t *testing.T) {
	d := New("abc")
	files(t, d, "abc", "")
	d.Crash(0)
	files(t, d, "abc", "")
}

func TestActsOnEachFile(t *testing.T) {
	for n := range Files {
		want := []string{"abc", ""}
		d := New(want[0])
		done(t, "Append", d.Append(n, "de"), true)
		want[n] += "de"
		files(t, d, want...)
		done(t, "Append", d.Append(n, "f"), true)
		want[n] += "f"
		files(t, d, want...)
		done(t, "Sync", d.Sync(n), true)
		d.Crash(0)
		files(t, d, want...)
		done(t, "Cut", d.Cut(n), true)
		want[n] = ""
		files(t, d, want...)
		d.Crash(100)
		files(t, d, want...)
	}
}

func TestWhatACrashKeeps(t *testing.T) {
	for _, c := range []struct {
		keep          int
		first, second string
	}{
		{math.MinInt, "abc", "x"}, {-1, "abc", "x"}, {0, "abc", "x"}, {1, "abcd", "xy"}, {2, "abcde", "xyz"},
		{3, "abcde", "xyzt"}, {4, "abcde", "xyzt"}, {math.MaxInt, "abcde", "xyzt"},
	} {
		d := New("abc")
		d.Append(1, "x")
		d.Sync(1)
		d.Append(1, "yzt")
		d.Append(0, "de")
		d.Crash(c.keep)
		files(t, d, c.first, c.second)
		d.Crash(0) // what has stayed lasts
		files(t, d, c.first, c.second)
	}
}

func TestASyncIsOfItsFileAlone(t *testing.T) {
	d := New("abc")
	d.Append(0, "d")
	d.Append(1, "e")
	d.Sync(1)
	d.Crash(0)
	files(t, d, "abc", "e")
}

func TestAnAppendThatFails(t *testing.T) {
	d := New("abc")
	d.Break(1, 2)
	done(t, "Append", d.Append(0, "defg"), false)
	files(t, d, "abcde", "")
	d.Crash(0)
	files(t, d, "abcde", "")
}

func TestASyncThatFails(t *testing.T) {
	d := New("abc")
	d.Break(2, 1)
	done(t, "Append", d.Append(1, "xyz"), true)
	done(t, "Sync", d.Sync(1), false)
	files(t, d, "abc", "x")
}

func TestACutThatFails(t *testing.T) {
	d := New("abc")
	d.Break(1, 0)
	done(t, "Cut", d.Cut(0), false)
	files(t, d, "abc", "")
}

// TestTheActThatFails: of all acts only the k-th one, whatever acts they are.
func TestTheActThatFails(t *testing.T) {
	for k := range 9 {
		d := New("")
		d.Break(k, 0)
		for i := 1; i <= 8; i++ {
			act := []func() bool{func() bool { return d.Append(0, "a") }, func() bool { return d.Sync(1) }, func() bool { return d.Cut(1) }}[i%3]
			done(t, "an act", act(), i != k)
		}
	}
}

func TestTheLastBreakCounts(t *testing.T) {
	d := New("")
	d.Break(1, 5)
	d.Break(2, 1)
	done(t, "Append", d.Append(0, "abc"), true)
	done(t, "Sync", d.Sync(0), false)
	files(t, d, "a", "")
	d.Break(1, 5)
	d.Break(0, 5)
	done(t, "Append", d.Append(0, "bc"), true)
	d.Break(1, 0)
	d.Crash(9) // ends the Break too
	done(t, "Append", d.Append(0, "d"), true)
	done(t, "Sync", d.Sync(0), true)
	files(t, d, "abcd", "")
}

func TestShortenIsNoAct(t *testing.T) {
	d := New("abc")
	d.Break(1, 0)
	d.Shorten(0, 1)
	files(t, d, "a", "")
	done(t, "Sync", d.Sync(0), false)
	d.Append(0, "d")
	d.Crash(0)
	files(t, d, "a", "")
}
