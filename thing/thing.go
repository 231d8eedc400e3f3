// Package thing: which things may be, on whose side they are, and their order: see DOC.md, 'Words'.
package thing

import (
	"cmp"

	"ferry/api"
)

// IDMayBe tells if a thing may have this ID.
func IDMayBe(id api.ID) bool {
	return (id.Shard == 0 || id.Shard == 1) && 1 <= id.Number && id.Number <= api.MaxNumber
}

// MayBe tells if a thing may be.
func MayBe(item api.Item) bool {
	return IDMayBe(item.ID) && DriftMayBe(item.Place, item.Speed)
}

// DriftMayBe tells if a thing may have this place and speed, whatever its ID.
func DriftMayBe(place, speed float32) bool {
	return near(place) && near(speed)
}

// near asks for both bounds to hold, rather than for none to be broken, so that what is no number is not near.
func near(x float32) bool {
	return -api.Far <= x && x <= api.Far
}

// Side is the shard on whose side a place is.
func Side(place float32) int {
	if place < 0 {
		return 0
	}
	return 1
}

// Compare is below 0 if a comes ahead of b, above 0 if behind it, and 0 if they are the same.
func Compare(a, b api.ID) int {
	return cmp.Or(cmp.Compare(a.Shard, b.Shard), cmp.Compare(a.Number, b.Number))
}
