package log

import (
	"slices"
	"testing"

	"pairstone/api"
)

// edgeDeals has deals with what is least and greatest at each place of a record.
func edgeDeals() []api.Deal {
	seal := api.Seal{R: second, S: 300}
	places := make([]int, 0, 1000)
	for n := range 1000 {
		places = append(places, n)
	}
	l := []api.Deal{
		{Seal: api.Seal{R: far}},
		{Gone: []int{0}, Seal: seal},
		{Gone: []int{999, 255, 256, 0}, Seal: seal},
		{Gone: places, Seal: seal},
		{New: []api.Spot{far}, Seal: seal},
		{New: []api.Spot{far, base, minus, far}, Seal: seal},
		{New: slices.Repeat([]api.Spot{minus}, 12), Seal: seal},
		{Gone: places, New: slices.Repeat([]api.Spot{base}, 12), Seal: seal},
	}
	for _, s := range []int{0, 1, 255, 256, 1012} {
		l = append(l, api.Deal{Seal: api.Seal{R: base, S: s}})
	}
	// R of a seal may be any spot of the curve.
	for _, r := range []api.Spot{far, flat, four, twice, whole, base, minus} {
		l = append(l, api.Deal{Gone: []int{1}, New: []api.Spot{second}, Seal: api.Seal{R: r, S: 7}})
	}
	return l
}

func sameDeal(a, b api.Deal) bool {
	return slices.Equal(a.Gone, b.Gone) && slices.Equal(a.New, b.New) && a.Seal == b.Seal
}

func TestWhatIsWrittenIsRead(t *testing.T) {
	for _, d := range edgeDeals() {
		record := written(d)
		many := 0
		for end, got := range deals(record) {
			if end != len(record) || !sameDeal(got, d) {
				t.Errorf("of %v %v is read, up to %d of %d", d, got, end, len(record))
			}
			many++
		}
		if many != 1 || len(record) < 2 {
			t.Errorf("of %v there are %d records, of %d bytes", d, many, len(record))
		}
	}
}

// A piece of a record is none, whatever is ahead of it.
func TestAPieceOfARecordIsNone(t *testing.T) {
	for _, d := range edgeDeals() {
		record := written(d)
		row := slices.Concat(record, record)
		for cut := range len(row) + 1 {
			many := 0
			for end, got := range deals(row[:cut]) {
				many++
				if end != many*len(record) || !sameDeal(got, d) {
					t.Fatalf("of %v, cut at %d, %v is read, up to %d", d, cut, got, end)
				}
			}
			if many != cut/len(record) {
				t.Errorf("of %v, cut at %d, there are %d records", d, cut, many)
			}
		}
	}
}

func TestDealsAreInTheirOrder(t *testing.T) {
	var row []byte
	var ends []int
	for _, d := range edgeDeals() {
		row = append(row, written(d)...)
		ends = append(ends, len(row))
	}
	for stop := range len(ends) {
		at := 0
		for end, d := range deals(row) {
			if end != ends[at] || !sameDeal(d, edgeDeals()[at]) {
				t.Fatalf("record %d is %v, up to %d, want %v", at, d, end, edgeDeals()[at])
			}
			// It may be left at any of them.
			if at++; at > stop {
				break
			}
		}
		if at != stop+1 {
			t.Errorf("%d records are there, want %d", at, stop+1)
		}
	}
}
