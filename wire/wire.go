// Package wire: records and datagrams as bytes: see DOC.md.
package wire

import "ferry/api"

// lengthSize is how many bytes a length in a journal has.
const lengthSize = 2

// Sum is the check sum of a text (P3).
func Sum(s string) int {
	sum := 1
	for i := range len(s) {
		sum = (31*sum + int(s[i]) + 1) % 65521
	}
	return sum
}

// Encode writes a record (P4).
func Encode(r api.Record) (string, api.Errno) {
	if !mayBe(r) {
		return "", api.ErrArg
	}
	b := putRecord(nil, r)
	return string(putNumber(b, Sum(string(b)))), api.OK
}

// Decode reads one (P4).
func Decode(s string) (api.Record, api.Errno) {
	in := reader{rest: s}
	r := in.record()
	// The reader takes anything: Encode alone knows which records may be, how long they are, and their sum.
	if again, e := Encode(r); e != api.OK || again != s {
		return api.Record{}, api.ErrBytes
	}
	return r, api.OK
}

// Scan reads a journal (P5).
func Scan(s string) ([]api.Record, int) {
	var records []api.Record
	taken := 0
journal:
	for {
		body, whole := framed(s[taken:])
		if !whole {
			break journal
		}
		r, e := Decode(body)
		switch e {
		case api.OK:
			records = append(records, r)
			taken += lengthSize + len(body)
			continue journal
		default:
			break journal
		}
	}
	return records, taken
}

// framed is the bytes behind the length that s begins with, if all of them are there.
func framed(s string) (string, bool) {
	if len(s) < lengthSize {
		return "", false
	}
	in := reader{rest: s}
	length := in.number()
	if len(in.rest) < length {
		return "", false
	}
	return in.rest[:length], true
}
