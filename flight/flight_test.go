package flight

import (
	"math"
	"slices"
	"strconv"
	"testing"

	"ferry/api"
)

func flightOf(datagrams ...string) *Flight {
	f := new(Flight)
	for _, d := range datagrams {
		f.Put(d)
	}
	return f
}

func has(t *testing.T, f *Flight, want ...string) {
	t.Helper()
	if got := f.All(); !slices.Equal(got, want) {
		t.Errorf("P10: under way are %q, want %q", got, want)
	}
}

// numbered: the datagrams "0", "1", and so on.
func numbered(n int) []string {
	l := make([]string, n)
	for i := range l {
		l[i] = strconv.Itoa(i)
	}
	return l
}

func TestPutIsTheLast(t *testing.T) {
	has(t, flightOf())
	has(t, flightOf("b", "a", "", "b"), "b", "a", "", "b")
}

func TestOneMoreThanMayBeIsLost(t *testing.T) {
	full := numbered(32)
	has(t, flightOf(numbered(31)...), full[:31]...)
	has(t, flightOf(full...), full...)
	f := flightOf(numbered(40)...)
	has(t, f, full...)
	if e := f.Double(3); e != api.OK {
		t.Errorf("P10: Double = %d", e)
	}
	has(t, f, full...)
	f.Take(0)
	f.Put("new")
	has(t, f, append(full[1:32:32], "new")...)
}

func TestTake(t *testing.T) {
	for k, rest := range [][]string{{"b", "c"}, {"a", "c"}, {"a", "b"}} {
		f := flightOf("a", "b", "c")
		if d, e := f.Take(k); d != []string{"a", "b", "c"}[k] || e != api.OK {
			t.Errorf("P10: Take(%d) = %q, %d", k, d, e)
		}
		has(t, f, rest...)
	}
}

func TestDouble(t *testing.T) {
	for k, last := range []string{"a", "b", "c"} {
		f := flightOf("a", "b", "c")
		if e := f.Double(k); e != api.OK {
			t.Errorf("P10: Double(%d) = %d", k, e)
		}
		has(t, f, "a", "b", "c", last)
	}
}

func TestSpoil(t *testing.T) {
	for _, c := range []struct {
		n    int
		left string
	}{{math.MinInt, ""}, {-1, ""}, {0, ""}, {1, "w"}, {3, "wor"}, {4, "word"}, {5, "word"}, {math.MaxInt, "word"}} {
		f := flightOf("first", "word", "last")
		if e := f.Spoil(1, c.n); e != api.OK {
			t.Errorf("P10: Spoil(1, %d) = %d", c.n, e)
		}
		has(t, f, "first", c.left, "last")
	}
}

func TestADoubleIsSpoiltAlone(t *testing.T) {
	f := flightOf("word")
	f.Double(0)
	f.Spoil(0, 2)
	has(t, f, "wo", "word")
}

func TestThereIsNone(t *testing.T) {
	for _, datagrams := range [][]string{nil, {"a"}, {"a", "b", "c"}, numbered(32)} {
		f := flightOf(datagrams...)
		for _, k := range []int{-1, len(datagrams), len(datagrams) + 1, math.MinInt, math.MaxInt} {
			if d, e := f.Take(k); d != "" || e != api.ErrNone {
				t.Errorf("P10: Take(%d) = %q, %d", k, d, e)
			}
			if e := f.Double(k); e != api.ErrNone {
				t.Errorf("P10: Double(%d) = %d", k, e)
			}
			if e := f.Spoil(k, 0); e != api.ErrNone {
				t.Errorf("P10: Spoil(%d, 0) = %d", k, e)
			}
		}
		has(t, f, datagrams...)
	}
}

func TestAllIsNewMemory(t *testing.T) {
	f := flightOf("a", "b", "c")
	early, late := f.All(), f.All()
	late = late[:cap(late)]
	for i := range late {
		late[i] = "scribble"
	}
	has(t, f, "a", "b", "c")
	f.Put("d")
	f.Take(0)
	f.Spoil(0, 0)
	if !slices.Equal(early, []string{"a", "b", "c"}) {
		t.Errorf("P2: an answer has become %q", early)
	}
}
