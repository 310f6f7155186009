package log

import (
	"iter"

	"pairstone/api"
	"pairstone/bytes"
)

// A record has its deal behind a number that tells how many bytes that is: so no piece of one is taken for a whole one.
// A number has two bytes, the high one first: no place, length or S of a deal that a Book did is too great for them.
const numberSize = 2

// written is the record of a deal that a Book did.
func written(d api.Deal) []byte {
	var body []byte
	body = putNumber(body, len(d.Gone))
	for _, place := range d.Gone {
		body = putNumber(body, place)
	}
	body = putNumber(body, len(d.New))
	for _, s := range d.New {
		body = putSpot(body, s)
	}
	body = putSpot(body, d.Seal.R)
	body = putNumber(body, d.Seal.S)
	return append(putNumber(nil, len(body)), body...)
}

// deals of the whole records, each with the place behind its record; of a last one that is cut off there is none.
func deals(laid []byte) iter.Seq2[int, api.Deal] {
	return func(yield func(int, api.Deal) bool) {
		at := 0
		for at+numberSize <= len(laid) {
			body := at + numberSize
			end := body + numberAt(laid, at)
			if end > len(laid) || !yield(end, read(laid[body:end])) {
				return
			}
			at = end
		}
	}
}

// read is the deal of a record's body.
func read(body []byte) api.Deal {
	r := reader{rest: body}
	var d api.Deal
	for range r.number() {
		d.Gone = append(d.Gone, r.number())
	}
	for range r.number() {
		d.New = append(d.New, r.spot())
	}
	d.Seal.R = r.spot()
	d.Seal.S = r.number()
	return d
}

func putNumber(to []byte, n int) []byte { return append(to, byte(n>>8), byte(n)) }

func numberAt(b []byte, at int) int { return int(b[at])<<8 | int(b[at+1]) }

func putSpot(to []byte, s api.Spot) []byte {
	// No error comes of it: a Book has checked the spot.
	packed, _ := bytes.Pack(s)
	return append(to, packed...)
}

// reader takes piece by piece off the bytes of a whole body.
type reader struct{ rest []byte }

func (r *reader) number() int {
	n := numberAt(r.rest, 0)
	r.rest = r.rest[numberSize:]
	return n
}

func (r *reader) spot() api.Spot {
	// What is Far has but its first byte, 0; any other spot has its X behind it.
	size := 1
	if r.rest[0] != 0 {
		size += numberSize
	}
	// No error comes of it: they are bytes of Pack.
	s, _ := bytes.Unpack(string(r.rest[:size]))
	r.rest = r.rest[size:]
	return s
}
