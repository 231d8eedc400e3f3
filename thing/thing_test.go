package thing

import (
	"math"
	"testing"

	"ferry/api"
)

func TestIDMayBe(t *testing.T) {
	for _, c := range []struct {
		id   api.ID
		want bool
	}{
		{api.ID{Shard: 0, Number: 1}, true},
		{api.ID{Shard: 1, Number: 1}, true},
		{api.ID{Shard: 1, Number: api.MaxNumber}, true},
		{api.ID{}, false},
		{api.ID{Shard: 0, Number: -1}, false},
		{api.ID{Shard: 0, Number: api.MaxNumber + 1}, false},
		{api.ID{Shard: -1, Number: 1}, false},
		{api.ID{Shard: 2, Number: 1}, false},
		{api.ID{Shard: math.MinInt, Number: math.MaxInt}, false},
	} {
		if got := IDMayBe(c.id); got != c.want {
			t.Errorf("IDMayBe(%+v) = %v", c.id, got)
		}
	}
}

func TestMayBe(t *testing.T) {
	id := api.ID{Shard: 1, Number: 7}
	beyond := math.Nextafter32(api.Far, 2*api.Far)
	infinite := float32(math.Inf(1))
	none := float32(math.NaN())
	for _, c := range []struct {
		x    float32
		want bool
	}{
		{0, true}, {float32(math.Copysign(0, -1)), true}, {-1.5, true}, {math.SmallestNonzeroFloat32, true},
		{api.Far, true}, {-api.Far, true}, {beyond, false}, {-beyond, false},
		{math.MaxFloat32, false}, {infinite, false}, {-infinite, false}, {none, false},
	} {
		if got := MayBe(api.Item{ID: id, Place: c.x}); got != c.want {
			t.Errorf("MayBe at the place %v = %v", c.x, got)
		}
		if got := MayBe(api.Item{ID: id, Speed: c.x}); got != c.want {
			t.Errorf("MayBe with the speed %v = %v", c.x, got)
		}
		if MayBe(api.Item{Place: c.x}) {
			t.Errorf("MayBe without an ID, at the place %v", c.x)
		}
	}
}

func TestSide(t *testing.T) {
	for _, c := range []struct {
		place float32
		want  int
	}{
		{-api.Far, 0}, {-1, 0}, {-math.SmallestNonzeroFloat32, 0},
		{float32(math.Copysign(0, -1)), 1}, {0, 1}, {math.SmallestNonzeroFloat32, 1}, {api.Far, 1},
	} {
		if got := Side(c.place); got != c.want {
			t.Errorf("Side(%v) = %d", c.place, got)
		}
	}
}

func TestCompare(t *testing.T) {
	ordered := []api.ID{{Shard: 0, Number: 1}, {Shard: 0, Number: 2}, {Shard: 0, Number: 65535}, {Shard: 1, Number: 1}, {Shard: 1, Number: 65535}}
	for i, a := range ordered {
		for j, b := range ordered {
			got := Compare(a, b)
			if (got < 0) != (i < j) || (got > 0) != (i > j) {
				t.Errorf("Compare(%+v, %+v) = %d", a, b, got)
			}
		}
	}
}
