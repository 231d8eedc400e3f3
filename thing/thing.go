// Package thing: which things may be, and their order: see DOC.md, 'Words'.
package thing

import (
	"cmp"

	"ferry/api"
)

// IDMayBe tells if a thing may have this ID.
func IDMayBe(id api.ID) bool {
	return (id.Shard == 0 || id.Shard == 1) && 1 <= id.Number && id.Number <= api.MaxNumber
}

// MayBe tells if a thing may be.
func MayBe(item api.Item) bool {
	return IDMayBe(item.ID) && near(item.Place) && near(item.Speed)
}

// near asks for both bounds to hold, rather than for none to be broken, so that what is no number is not near.
func near(x float32) bool {
	return -api.Far <= x && x <= api.Far
}

// Compare is below 0 if a comes ahead of b, above 0 if behind it, and 0 if they are the same.
func Compare(a, b api.ID) int {
	return cmp.Or(cmp.Compare(a.Shard, b.Shard), cmp.Compare(a.Number, b.Number))
}
