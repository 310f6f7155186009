package batch

import (
	"fmt"
	"math"
	"slices"
	"strings"
	"testing"

	"pairstone/api"
	"pairstone/curve"
	"pairstone/plain"
	"pairstone/seal"
)

var (
	far = api.Spot{Far: true}
	// flat has Y 0: twice it is Far, so that it does not count.
	flat  = api.Spot{}
	base  = api.Spot{X: 1189, Y: 3667}
	minus = api.Spot{X: 1189, Y: 384}
	// four, twice and whole are on the curve but do not count: their orders are 4, twice Q and Whole.
	four  = api.Spot{X: 4050, Y: 90}
	twice = api.Spot{X: 3180, Y: 1220}
	whole = api.Spot{X: 107, Y: 3793}
	// wide has a number out of range, and off is beside the curve.
	wide = api.Spot{X: 4051}
	off  = api.Spot{X: 1189, Y: 3666}
	// mine and yours are the keys of 29 and 77.
	mine  = api.Spot{X: 1710, Y: 1841}
	yours = api.Spot{X: 1742, Y: 2049}
)

// The texts at the edge of what may be: letters of one byte, and of three.
var (
	full   = strings.Repeat("x", 60)
	over   = strings.Repeat("x", 61)
	euros  = strings.Repeat("\xe2\x82\xac", 20)
	bright = strings.Repeat("\xff", 60)
)

func ordinary() []string {
	return []string{"", "a", "pay 5", "pay 6", "\x00", "\x00\x00", "\xff", full[1:], full, euros, bright}
}

// overTexts are more bytes than may be, also where they are fewer letters, or so many that a number of one byte goes round.
func overTexts() []string {
	return []string{over, strings.Repeat("\xc3\xa9", 31), euros + "\x00", bright + "a", strings.Repeat("x", 256), strings.Repeat("x", 256+60), strings.Repeat("\x00", 1<<16)}
}

// outside are numbers that are not from 0 to Q - 1, some of which are one modulo Q, or in their lower bits.
func outside() []int {
	return []int{-1, -2, -1012, -1013, -1014, 1013, 1014, 2025, 2026, 4051, 4052, 4053, 1 << 16, 1 << 32, 1<<32 + 1, 1 << 62, math.MaxInt, math.MinInt, math.MinInt + 1}
}

// noWeights are numbers that w may not be: outside, and 0.
func noWeights() []int { return append(outside(), 0) }

// edges are numbers that w may be: the least, the greatest, and some between.
func edges() []int { return []int{1, 2, 3, 4, 29, 506, 507, 1011, 1012} }

// tooMany are more than may be, also where a number of one or two bytes goes round.
func tooMany() []int { return []int{13, 14, 24, 25, 255, 256, 257, 256 + 12, 1<<16 + 3} }

// beside has spots of the curve that do not count, one of each order: 2, 4, twice Q and Whole.
func beside() []api.Spot { return []api.Spot{flat, four, twice, whole} }

// wrong is a spot, and what is told of it.
type wrong struct {
	s    api.Spot
	want api.Errno
}

// wrongs has spots that are none: out of range at each place, Far and somewhere, beside the curve.
func wrongs() (l []wrong) {
	for _, n := range []int{-1, -4051, 4051, 1 << 16, math.MaxInt, math.MinInt} {
		l = append(l,
			wrong{api.Spot{X: n}, api.ErrRange},
			wrong{api.Spot{Y: n}, api.ErrRange},
			wrong{api.Spot{X: n, Y: 3667}, api.ErrRange},
			wrong{api.Spot{X: 1189, Y: n}, api.ErrRange},
			wrong{api.Spot{X: n, Far: true}, api.ErrRange},
			wrong{api.Spot{Y: n, Far: true}, api.ErrRange},
		)
	}
	return append(l,
		wrong{api.Spot{X: 1189 + 4051, Y: 3667}, api.ErrRange},
		wrong{api.Spot{X: 1189, Y: 3667 - 4051}, api.ErrRange},
		wrong{api.Spot{X: 1, Far: true}, api.ErrRange},
		wrong{api.Spot{X: 1189, Y: 3667, Far: true}, api.ErrRange},
		wrong{off, api.ErrShape},
		wrong{api.Spot{X: 1189}, api.ErrShape},
		wrong{api.Spot{Y: 1}, api.ErrShape},
		wrong{api.Spot{X: 4050, Y: 4050}, api.ErrShape},
	)
}

// world has all spots in a row, each as so many times the first one of it: sums of spots are those of their places, modulo Whole.
type world struct {
	row []api.Spot
	at  map[api.Spot]int
	// many is by the place of a spot that counts how many times Base it is.
	many map[int]int
}

func newWorld(t *testing.T) world {
	t.Helper()
	w := world{at: map[api.Spot]int{}, many: map[int]int{}}
	for s := far; len(w.row) < 4052; {
		w.at[s] = len(w.row)
		w.row = append(w.row, s)
		next, err := curve.Add(s, whole)
		if err != nil {
			t.Fatalf("Add(%v, %v): %v", s, whole, err)
		}
		s = next
	}
	if len(w.at) != 4052 {
		t.Fatalf("%v comes by %d spots, want 4052", whole, len(w.at))
	}
	for n := range 1013 {
		w.many[n*w.at[base]%4052] = n
	}
	return w
}

// key of a secret.
func (w world) key(x int) api.Spot { return w.row[x*w.at[base]%4052] }

func (w world) sum(a, b api.Spot) api.Spot { return w.row[(w.at[a]+w.at[b])%4052] }

// packed has the bytes of a spot, told without package bytes.
func packed(s api.Spot) []byte {
	switch {
	case s.Far:
		return []byte{0}
	case s.Y <= (4051-s.Y)%4051:
		return []byte{1, byte(s.X / 256), byte(s.X % 256)}
	}
	return []byte{2, byte(s.X / 256), byte(s.X % 256)}
}

// asked is chapter 8's Ask of right spots, told without package seal.
func asked(r, key api.Spot, text string) int {
	n := 5
	for _, part := range [][]byte{packed(r), packed(key), []byte(text)} {
		for _, b := range part {
			n = (n*263 + int(b) + 1) % 1000003
		}
	}
	return n % 1013
}

// item is what stands at one place of the lists, and what chapter 8's Verify tells of it: OK, if it has no fault.
type item struct {
	key  api.Spot
	text string
	s    api.Seal
	w    int
	want api.Errno
}

// split has the lists of items.
func split(items []item) (keys []api.Spot, texts []string, l []api.Seal, w []int) {
	for _, it := range items {
		keys, texts, l, w = append(keys, it.key), append(texts, it.text), append(l, it.s), append(w, it.w)
	}
	return keys, texts, l, w
}

// gap is the place of S times Base, less R, less Ask times the key.
func (w world) gap(it item) int {
	n := it.s.S*w.at[base] - w.at[it.s.R] - asked(it.s.R, it.key, it.text)*w.at[it.key]
	return (n%4052 + 4052) % 4052
}

// right tells by places whether all of them add up to Far.
func (w world) right(items []item) bool {
	sum := 0
	for _, it := range items {
		sum += it.w * w.gap(it)
	}
	return sum%4052 == 0
}

// wrongPlaces are those of items that are not right by themselves.
func (w world) wrongPlaces(items []item) (l []int) {
	for place, it := range items {
		if w.gap(it) != 0 {
			l = append(l, place)
		}
	}
	return l
}

// sealed is an item that is right: by the secret x, and k.
func (w world) sealed(x, k int, text string) item { return w.astray(x, k, text, far) }

// astray is an item whose R is beside where it should be by a spot, and is asked for as it is: its gap is the Neg of that spot.
func (w world) astray(x, k int, text string, by api.Spot) item {
	key, r := w.key(x), w.sum(w.key(k), by)
	return item{key: key, text: text, s: api.Seal{R: r, S: (k + asked(r, key, text)*x) % 1013}, w: 1}
}

// solved is an item with any key and R that is right, if there is an S that makes it so.
func (w world) solved(key, r api.Spot, text string) (item, bool) {
	s, ok := w.many[(w.at[r]+asked(r, key, text)*w.at[key])%4052]
	return item{key: key, text: text, s: api.Seal{R: r, S: s}, w: 1}, ok
}

// moved is an item with another S: n more, modulo Q.
func (it item) moved(n int) item {
	it.s.S = ((it.s.S+n)%1013 + 1013) % 1013
	return it
}

// weighted is an item with another w.
func (it item) weighted(w int) item {
	it.w = w
	return it
}

// pick is a row of numbers that look as if by chance, the same ones each time.
type pick int

func (p *pick) below(n int) int {
	*p = (*p*1103515245 + 12345) & (1<<31 - 1)
	return int(*p>>8) % n
}

// secret is a number from 1 to Q - 1; so is what w may be.
func (p *pick) secret() int { return 1 + p.below(1012) }

func (p *pick) spot(w world) api.Spot { return w.row[p.below(4052)] }

func (p *pick) text() string { return ordinary()[p.below(len(ordinary()))] }

// right is an item that is right, with any w.
func (p *pick) right(w world) item {
	return w.sealed(p.secret(), p.secret(), p.text()).weighted(p.secret())
}

func (p *pick) rights(w world, many int) (l []item) {
	for range many {
		l = append(l, p.right(w))
	}
	return l
}

// solved is one that is right, and whose key may be any spot.
func (p *pick) solved(w world) item {
	for {
		if it, ok := w.solved(p.spot(w), p.spot(w), p.text()); ok {
			return it.weighted(p.secret())
		}
	}
}

// any is an item without a fault, right or not.
func (p *pick) any(w world) item {
	it := p.right(w)
	switch p.below(8) {
	case 0:
		return it.moved(p.secret())
	case 1:
		it.s.R = p.spot(w)
	case 2:
		it.key = p.spot(w)
	case 3:
		it.text = p.text()
	case 4:
		return p.solved(w)
	case 5:
		return w.astray(p.secret(), p.secret(), p.text(), beside()[p.below(2)]).weighted(p.secret())
	}
	return it
}

func repeated[T any](s T, many int) []T { return slices.Repeat([]T{s}, many) }

// with is a list, but for another one at a place.
func with[T any](l []T, place int, other T) []T {
	l = slices.Clone(l)
	l[place] = other
	return l
}

// ends are the first, one between and the last place of so many.
func ends(many int) []int { return slices.Compact([]int{0, many / 2, many - 1}) }

// told has items as they are told of where a test fails: not all of them, if they are too many.
func told(items []item) (l []string) {
	for _, it := range items[:min(len(items), 12)] {
		l = append(l, fmt.Sprintf("{%v %.61q %v %d}", it.key, it.text, it.s, it.w))
	}
	return l
}

func checkVerify(t *testing.T, items []item, want bool) {
	t.Helper()
	if got, err := Verify(split(items)); got != want || err != nil {
		t.Errorf("Verify(%v) is %v, %v, want %v", told(items), got, err, want)
	}
}

func failVerify(t *testing.T, items []item, want api.Errno) {
	t.Helper()
	if got, err := Verify(split(items)); got || plain.Told(err) != want {
		t.Errorf("Verify of %d is %v, %v, want %v: %v", len(items), got, err, want, told(items))
	}
}

func checkWrong(t *testing.T, items []item, want ...int) {
	t.Helper()
	keys, texts, l, _ := split(items)
	if got, err := Wrong(keys, texts, l); !slices.Equal(got, want) || err != nil {
		t.Errorf("Wrong(%v) is %v, %v, want %v", told(items), got, err, want)
	}
}

func failWrong(t *testing.T, items []item, want api.Errno) {
	t.Helper()
	keys, texts, l, _ := split(items)
	if got, err := Wrong(keys, texts, l); len(got) != 0 || plain.Told(err) != want {
		t.Errorf("Wrong of %d is %v, %v, want %v: %v", len(items), got, err, want, told(items))
	}
}

// check holds Verify and Wrong of what has no fault against the places of the spots.
func (w world) check(t *testing.T, items []item) {
	t.Helper()
	checkVerify(t, items, w.right(items))
	checkWrong(t, items, w.wrongPlaces(items)...)
}

// verifyFault is what Verify tells, in the order that the document names.
func verifyFault(items []item) api.Errno {
	if len(items) > 12 {
		return api.ErrFull
	}
	for _, it := range items {
		if it.want != api.OK {
			return it.want
		}
		if it.w < 1 || it.w > 1012 {
			return api.ErrRange
		}
	}
	return api.OK
}

// wrongFault is what Wrong tells: the same, but for w.
func wrongFault(items []item) api.Errno {
	items = slices.Clone(items)
	for place := range items {
		items[place].w = 1
	}
	return verifyFault(items)
}

// checkFaults holds both against what they tell, or, of what has no fault, against the places of the spots.
func (w world) checkFaults(t *testing.T, items []item) {
	t.Helper()
	if want := verifyFault(items); want != api.OK {
		failVerify(t, items, want)
	} else {
		checkVerify(t, items, w.right(items))
	}
	if want := wrongFault(items); want != api.OK {
		failWrong(t, items, want)
	} else {
		checkWrong(t, items, w.wrongPlaces(items)...)
	}
}

// mineSealed and yoursSealed are seals of 29 and 77, told by hand.
func mineSealed() item {
	return item{key: mine, text: "pay 5", s: api.Seal{R: api.Spot{X: 607, Y: 1325}, S: 199}, w: 1}
}

func yoursSealed() item {
	return item{key: yours, text: "pay 6", s: api.Seal{R: api.Spot{X: 1923, Y: 542}, S: 434}, w: 1}
}

// faulty has items with each fault that chapter 8's Verify tells, also with several at once.
func faulty() (l []item) {
	for _, text := range overTexts() {
		// The text is told ahead of the spots, and of S.
		for _, key := range []api.Spot{mine, wide, off} {
			l = append(l,
				item{key: key, text: text, s: api.Seal{R: base}, w: 1, want: api.ErrFull},
				item{key: key, text: text, s: api.Seal{R: wide, S: 1013}, w: 1, want: api.ErrFull},
			)
		}
	}
	for _, a := range wrongs() {
		// The key is told ahead of R, and both ahead of S.
		for _, s := range []int{0, -1, 1013} {
			l = append(l,
				item{key: a.s, text: "pay 5", s: api.Seal{R: base, S: s}, w: 1, want: a.want},
				item{key: a.s, text: "pay 5", s: api.Seal{R: wide, S: s}, w: 1, want: a.want},
				item{key: a.s, text: full, s: api.Seal{R: off, S: s}, w: 1, want: a.want},
				item{key: mine, text: "", s: api.Seal{R: a.s, S: s}, w: 1, want: a.want},
				item{key: whole, text: full, s: api.Seal{R: a.s, S: s}, w: 1, want: a.want},
			)
		}
	}
	for _, s := range append(outside(), 199+1013, 199-1013, 199+4052) {
		it := mineSealed()
		it.s.S, it.want = s, api.ErrRange
		l = append(l, it)
	}
	return l
}

// kinds has one of each kind: right, wrong, and with each fault.
func kinds() []item {
	return []item{
		mineSealed(),
		mineSealed().moved(1),
		{key: far, s: api.Seal{R: far}, w: 1},
		{key: wide, text: over, s: api.Seal{R: off, S: -1}, w: 1, want: api.ErrFull},
		{key: wide, text: full, s: api.Seal{R: off, S: -1}, w: 1, want: api.ErrRange},
		{key: off, text: full, s: api.Seal{R: wide, S: -1}, w: 1, want: api.ErrShape},
		{key: mine, s: api.Seal{R: off, S: 1013}, w: 1, want: api.ErrShape},
		{key: mine, s: api.Seal{R: base, S: 1013}, w: 1, want: api.ErrRange},
	}
}

func TestVerifyByHand(t *testing.T) {
	least := item{key: base, text: full, s: api.Seal{R: minus, S: 55}}
	greatest := item{key: minus, text: "", s: api.Seal{R: base, S: 267}}
	one, other := mineSealed(), yoursSealed()
	cases := []struct {
		items []item
		want  bool
	}{
		{[]item{one}, true},
		{[]item{one.weighted(1012)}, true},
		{[]item{one.moved(1)}, false},
		{[]item{one.moved(1).weighted(1012)}, false},
		{[]item{one, other}, true},
		{[]item{other.weighted(5), one.weighted(1011)}, true},
		{[]item{least.weighted(1012), one.weighted(3), greatest.weighted(1), other.weighted(507)}, true},
		{[]item{least.weighted(1012), one.weighted(3), greatest.moved(-1).weighted(1), other.weighted(507)}, false},
		// Each goes with what stands at its place.
		{[]item{{key: mine, text: "pay 6", s: one.s, w: 1}, {key: yours, text: "pay 5", s: other.s, w: 1}}, false},
		{[]item{{key: yours, text: "pay 5", s: one.s, w: 1}, {key: mine, text: "pay 6", s: other.s, w: 1}}, false},
		// 3 too many, and 5 too few: it is w that tells whether they undo each other.
		{[]item{one.moved(3).weighted(5), other.moved(-5).weighted(3)}, true},
		{[]item{one.moved(3).weighted(10), other.moved(-5).weighted(6)}, true},
		{[]item{one.moved(3).weighted(1012), other.moved(-5).weighted(202)}, true},
		{[]item{one.moved(3).weighted(507), other.moved(-5).weighted(912)}, true},
		{[]item{one.moved(3).weighted(3), other.moved(-5).weighted(5)}, false},
		{[]item{one.moved(3).weighted(1), other.moved(-5).weighted(1)}, false},
	}
	for _, c := range cases {
		// What comes of the same is the same each time.
		for range 2 {
			checkVerify(t, c.items, c.want)
		}
	}
}

func TestWrongByHand(t *testing.T) {
	one, other := mineSealed(), yoursSealed()
	for range 2 {
		checkWrong(t, []item{one})
		checkWrong(t, []item{one.moved(1)}, 0)
		checkWrong(t, []item{one, other})
		checkWrong(t, []item{one.moved(1), other}, 0)
		checkWrong(t, []item{one, other.moved(1)}, 1)
		// They are wrong, though they undo each other.
		checkWrong(t, []item{one.moved(3), other.moved(-3)}, 0, 1)
		checkWrong(t, []item{one, other.moved(-1), other, one.moved(1), one}, 1, 3)
		checkWrong(t, append(repeated(one, 11), other.moved(1)), 11)
		checkWrong(t, append(repeated(other.moved(1), 11), one), 0, 1, 2, 3, 4, 5, 6, 7, 8, 9, 10)
	}
}

func TestOfNone(t *testing.T) {
	for _, keys := range [][]api.Spot{nil, {}} {
		for _, texts := range [][]string{nil, {}} {
			for _, l := range [][]api.Seal{nil, {}} {
				for _, w := range [][]int{nil, {}} {
					if got, err := Verify(keys, texts, l, w); !got || err != nil {
						t.Errorf("Verify of none is %v, %v, want true", got, err)
					}
				}
				if got, err := Wrong(keys, texts, l); len(got) != 0 || err != nil {
					t.Errorf("Wrong of none is %v, %v, want none", got, err)
				}
			}
		}
	}
}

// What is sealed by package seal is right all at once, by whatever w.
func TestRightOnesByWhateverW(t *testing.T) {
	w, p := newWorld(t), pick(1)
	for many := range 13 {
		for range 20 {
			items := p.rights(w, many)
			for place := range items {
				s, err := seal.Sign(29, p.secret(), items[place].text)
				if err != nil {
					t.Fatal(err)
				}
				items[place].key, items[place].s = mine, s
			}
			checkVerify(t, items, true)
			checkWrong(t, items)
			checkVerify(t, p.rights(w, many), true)
			for _, n := range edges() {
				for place := range items {
					items[place].w = n
				}
				checkVerify(t, items, true)
			}
		}
	}
}

func TestOneByEachW(t *testing.T) {
	one, other := mineSealed(), yoursSealed()
	for n := 1; n <= 1012; n++ {
		checkVerify(t, []item{one.weighted(n)}, true)
		checkVerify(t, []item{one.weighted(n), other.weighted(1013 - n)}, true)
		for _, by := range []int{1, 506, 1012} {
			checkVerify(t, []item{one.moved(by).weighted(n)}, false)
			checkVerify(t, []item{one.weighted(1013 - n), other.moved(by).weighted(n)}, false)
		}
	}
}

// With another number it is not right: of all S none does but its own.
func TestOneByEachS(t *testing.T) {
	one, other := mineSealed(), yoursSealed()
	for by := range 1013 {
		checkVerify(t, []item{other.weighted(7), one.moved(by).weighted(8)}, by == 0)
		if by == 0 {
			checkWrong(t, []item{other, one.moved(by)})
			continue
		}
		checkWrong(t, []item{other, one.moved(by)}, 1)
	}
}

// others has items that are wrong, each for another S, another R, another key, another text.
func (w world) others(it item) []item {
	r, key, text := it, it, it
	r.s.R = w.sum(it.s.R, base)
	key.key = w.sum(it.key, base)
	text.text = "another"
	return []item{it.moved(1), it.moved(-1), r, key, text}
}

func TestOneThatIsWrongAmongRightOnes(t *testing.T) {
	w, p := newWorld(t), pick(2)
	for many := 1; many <= 12; many++ {
		items := p.rights(w, many)
		checkVerify(t, items, true)
		for place, it := range items {
			for _, other := range w.others(it) {
				if w.gap(other) == 0 {
					t.Fatalf("%v is right by chance", told([]item{other}))
				}
				for _, n := range edges() {
					checkVerify(t, with(items, place, other.weighted(n)), false)
				}
				checkWrong(t, with(items, place, other), place)
			}
		}
	}
}

// Of all w of the one there is just one of the other by which two that are wrong undo each other.
func TestTwoThatUndoEachOther(t *testing.T) {
	one, other := mineSealed().moved(3), yoursSealed().moved(-5)
	for _, n := range edges() {
		undone := 0
		for m := 1; m <= 1012; m++ {
			items := []item{one.weighted(n), other.weighted(m)}
			want := (3*n-5*m)%1013 == 0
			checkVerify(t, items, want)
			if want {
				undone++
			}
		}
		if undone != 1 {
			t.Errorf("by %d of the one, %d of the other undo it", n, undone)
		}
	}
	checkWrong(t, []item{one, other}, 0, 1)
}

func TestSeveralThatUndoEachOther(t *testing.T) {
	w, p := newWorld(t), pick(3)
	for many := 2; many <= 12; many++ {
		for range 40 {
			items, sum := p.rights(w, many), 0
			for place, it := range items[1:] {
				by := p.secret()
				items[place+1], sum = it.moved(by), sum+by*it.w
			}
			// The first one, once, takes back what all others are too many.
			items[0] = items[0].moved(-sum).weighted(1)
			checkVerify(t, items, true)
			checkWrong(t, items, w.wrongPlaces(items)...)
			last := items[many-1]
			checkVerify(t, with(items, many-1, last.weighted(last.w%1012+1)), false)
			checkVerify(t, with(items, many-1, last.moved(1)), false)
		}
	}
}

// What one lacks may be Far some times, if it does not count: by such w it is not to be seen, but Wrong tells it.
func TestWhatIsFarByItsW(t *testing.T) {
	half := []item{
		{key: mine, text: "pay 5", s: api.Seal{R: api.Spot{X: 2803, Y: 28}, S: 11}},
		{key: yours, text: "pay 6", s: api.Seal{R: api.Spot{X: 1818, Y: 3349}, S: 192}},
	}
	quarter := []item{
		{key: mine, text: "pay 5", s: api.Seal{R: api.Spot{X: 1570, Y: 2922}, S: 476}},
		{key: yours, text: "pay 6", s: api.Seal{R: api.Spot{X: 667, Y: 1867}, S: 221}},
	}
	for n := 1; n <= 1012; n++ {
		for place := range 2 {
			checkVerify(t, []item{half[place].weighted(n)}, n%2 == 0)
			checkVerify(t, []item{quarter[place].weighted(n)}, n%4 == 0)
		}
		for _, m := range edges() {
			checkVerify(t, []item{half[0].weighted(n), half[1].weighted(m)}, (n+m)%2 == 0)
			checkVerify(t, []item{quarter[0].weighted(n), quarter[1].weighted(m)}, (n+m)%4 == 0)
			checkVerify(t, []item{quarter[0].weighted(n), half[1].weighted(m)}, (n+2*m)%4 == 0)
		}
	}
	checkWrong(t, half, 0, 1)
	checkWrong(t, quarter, 0, 1)
	checkWrong(t, []item{mineSealed(), half[0], yoursSealed(), quarter[1]}, 1, 3)
}

// strangers are right, told by hand, though the key, or R, is Far or does not count.
func strangers() []item {
	return []item{
		{key: far, s: api.Seal{R: far, S: 0}},
		{key: far, s: api.Seal{R: base, S: 1}},
		{key: mine, s: api.Seal{R: far, S: 440}},
		{key: flat, s: api.Seal{R: flat, S: 0}},
		{key: flat, s: api.Seal{R: api.Spot{X: 24, Y: 1500}, S: 573}},
		{key: four, s: api.Seal{R: api.Spot{X: 10, Y: 1779}, S: 513}},
		{key: twice, s: api.Seal{R: flat, S: 988}},
		{key: whole, s: api.Seal{R: api.Spot{X: 17, Y: 3499}, S: 133}},
		{key: flat, s: api.Seal{R: api.Spot{X: 5, Y: 777}, S: 416}},
		{key: four, s: api.Seal{R: api.Spot{X: 33, Y: 3943}, S: 579}},
		{key: twice, s: api.Seal{R: api.Spot{X: 38, Y: 3931}, S: 478}},
		{key: whole, s: api.Seal{R: api.Spot{X: 5, Y: 3274}, S: 926}},
	}
}

func TestKeysThatAreFarOrDoNotCount(t *testing.T) {
	items := strangers()
	for place := range items {
		items[place].text = "pay 5"
	}
	for n := 1; n <= 1012; n++ {
		for place, it := range items {
			items[place].w = 1 + (n+place*83)%1012
			checkVerify(t, []item{it.weighted(n)}, true)
			checkVerify(t, []item{it.moved(1).weighted(n), mineSealed()}, false)
		}
		checkVerify(t, items, true)
	}
	checkWrong(t, items)
	for place, it := range items {
		checkVerify(t, with(items, place, it.moved(1)), false)
		checkWrong(t, with(items, place, it.moved(1)), place)
	}
}

// Where a key does not count, w times Ask may not be taken modulo Q.
func TestKeysOfAllKindsAreToldByPlaces(t *testing.T) {
	w, p := newWorld(t), pick(4)
	for _, key := range append(beside(), far, base, minus) {
		for range 300 {
			it, ok := w.solved(key, p.spot(w), p.text())
			w.check(t, []item{it.weighted(p.secret())})
			other := p.any(w)
			other.key = key
			w.check(t, []item{other, it.weighted(p.secret()), p.any(w)})
			if ok {
				checkVerify(t, append(p.rights(w, 3), it.weighted(p.secret())), true)
			}
		}
	}
}

func TestIsToldByPlaces(t *testing.T) {
	w, p := newWorld(t), pick(5)
	for many := range 13 {
		for range 150 {
			var items []item
			for range many {
				items = append(items, p.any(w))
			}
			w.check(t, items)
			slices.Reverse(items)
			w.check(t, items)
		}
	}
}

// wrongBySeal tells by chapter 8's Verify, one by one, which are not right.
func wrongBySeal(t *testing.T, items []item) (l []int) {
	t.Helper()
	for place, it := range items {
		is, err := seal.Verify(it.key, it.text, it.s)
		if err != nil {
			t.Fatalf("seal.Verify of %v: %v", told([]item{it}), err)
		}
		if !is {
			l = append(l, place)
		}
	}
	return l
}

// Held against chapter 8's Verify: all that are right are so at once, and one that is not, and counts, is seen.
func TestIsWhatSealTellsOneByOne(t *testing.T) {
	w, p := newWorld(t), pick(6)
	for many := range 13 {
		for n := range 100 {
			items := p.rights(w, many)
			for place := range items {
				if p.below(12) < n%4 {
					items[place] = w.others(items[place])[p.below(5)]
				}
			}
			want := wrongBySeal(t, items)
			checkWrong(t, items, want...)
			switch len(want) {
			case 0:
				checkVerify(t, items, true)
			case 1:
				checkVerify(t, items, false)
			}
		}
	}
}

// Where each is asked by itself, Verify is chapter 8's, as long as what it lacks counts.
func TestOfOneIsWhatSealTells(t *testing.T) {
	w, p := newWorld(t), pick(7)
	for range 3000 {
		it := p.any(w)
		lacks := w.gap(it)
		is := len(wrongBySeal(t, []item{it})) == 0
		if is != (lacks == 0) {
			t.Errorf("seal tells %v of %v", is, told([]item{it}))
		}
		if is || lacks%4 == 0 {
			checkVerify(t, []item{it}, is)
		}
		if is {
			checkWrong(t, []item{it})
			continue
		}
		checkWrong(t, []item{it}, 0)
	}
}

// Each choice of 12 that are wrong.
func TestWrongOfEachChoice(t *testing.T) {
	w, p := newWorld(t), pick(8)
	right := p.rights(w, 12)
	for choice := range 1 << 12 {
		items, want := slices.Clone(right), []int(nil)
		for place := range items {
			if choice>>place&1 == 1 {
				items[place], want = items[place].moved(1+choice%1012), append(want, place)
			}
		}
		checkWrong(t, items, want...)
	}
}

func TestWrongOfAllOfThem(t *testing.T) {
	w, p := newWorld(t), pick(9)
	for many := range 13 {
		items, want := p.rights(w, many), []int(nil)
		checkWrong(t, items)
		for place := range items {
			items[place], want = items[place].moved(p.secret()), append(want, place)
		}
		checkWrong(t, items, want...)
		slices.Reverse(items)
		checkWrong(t, items, want...)
	}
}

// One that stands there twice is told, and counts, at each of its places.
func TestOneThatStandsThereTwice(t *testing.T) {
	one, bad := mineSealed(), mineSealed().moved(1)
	for many := 2; many <= 12; many++ {
		checkVerify(t, repeated(one, many), true)
		checkWrong(t, repeated(one, many))
		for first := range many {
			for second := range first {
				items := with(with(repeated(one, many), first, bad), second, bad)
				checkWrong(t, items, second, first)
				checkVerify(t, items, false)
				items[first].w = 1012
				checkVerify(t, items, true)
			}
		}
	}
	for many := 1; many <= 12; many++ {
		checkVerify(t, repeated(bad, many), false)
	}
}

func TestMaxListAndOneMore(t *testing.T) {
	w, p := newWorld(t), pick(10)
	items := p.rights(w, 13)
	checkVerify(t, items[:12], true)
	checkWrong(t, items[:12])
	failVerify(t, items, api.ErrFull)
	failWrong(t, items, api.ErrFull)
	items[11] = items[11].moved(1)
	checkVerify(t, items[:12], false)
	checkWrong(t, items[:12], 11)
}

// That there are too many is told ahead of whatever is wrong with them.
func TestTooManyAreToldFirst(t *testing.T) {
	for _, many := range tooMany() {
		for _, it := range kinds() {
			for _, n := range []int{1, 0, 1013} {
				items := repeated(it.weighted(n), many)
				failVerify(t, items, api.ErrFull)
				failWrong(t, items, api.ErrFull)
			}
		}
	}
}

func failLists(t *testing.T, it item, keys, texts, l, w int, want api.Errno) {
	t.Helper()
	got, err := Verify(repeated(it.key, keys), repeated(it.text, texts), repeated(it.s, l), repeated(it.w, w))
	if got || plain.Told(err) != want {
		t.Errorf("Verify of %d keys, %d texts, %d seals, %d w of %v is %v, %v, want %v", keys, texts, l, w, told([]item{it}), got, err, want)
	}
	// Wrong has no w.
	if texts == keys && l == keys && keys <= 12 {
		return
	}
	places, err := Wrong(repeated(it.key, keys), repeated(it.text, texts), repeated(it.s, l))
	if len(places) != 0 || plain.Told(err) != want {
		t.Errorf("Wrong of %d keys, %d texts, %d seals of %v is %v, %v, want %v", keys, texts, l, told([]item{it}), places, err, want)
	}
}

// Not as many of one is told ahead of what is wrong with any, and behind too many keys; too many of the others is no more than that.
func TestNotAsMany(t *testing.T) {
	for _, it := range append(kinds(), mineSealed().weighted(0)) {
		for keys := range 15 {
			want := api.ErrShape
			if keys > 12 {
				want = api.ErrFull
			}
			for _, n := range []int{0, keys - 1, keys + 1, 12, 13, keys + 256} {
				if n == keys || n < 0 {
					continue
				}
				failLists(t, it, keys, n, keys, keys, want)
				failLists(t, it, keys, keys, n, keys, want)
				failLists(t, it, keys, keys, keys, n, want)
				failLists(t, it, keys, n, n, keys, want)
				failLists(t, it, keys, keys, n, n, want)
				failLists(t, it, keys, n, keys, n, want)
				failLists(t, it, keys, n, n, n, want)
			}
		}
	}
}

// How many w there are does not matter to Wrong, nor what they are.
func TestWrongOfWhatHasNoW(t *testing.T) {
	for _, n := range noWeights() {
		checkWrong(t, []item{mineSealed().weighted(n), yoursSealed().moved(1).weighted(n)}, 1)
	}
}

// Each error of chapter 8's Verify at the first place, at one between and at the last.
func TestFaultsAtEachPlace(t *testing.T) {
	w, p := newWorld(t), pick(11)
	for _, it := range faulty() {
		if _, err := seal.Verify(it.key, it.text, it.s); plain.Told(err) != it.want {
			t.Errorf("seal tells %v of %v, want %v", err, told([]item{it}), it.want)
		}
		for _, many := range []int{1, 2, 3, 7, 12} {
			items := p.rights(w, many)
			for _, place := range ends(many) {
				failVerify(t, with(items, place, it), it.want)
				failWrong(t, with(items, place, it), it.want)
			}
		}
	}
}

// A fault is told whatever comes of those ahead of it, and of those behind.
func TestFaultsAmongWrongOnes(t *testing.T) {
	bad := mineSealed().moved(1)
	for _, it := range faulty() {
		for _, place := range ends(12) {
			failVerify(t, with(repeated(bad, 12), place, it), it.want)
			failWrong(t, with(repeated(bad, 12), place, it), it.want)
		}
	}
}

// Of two places that have a fault the first one is told.
func TestTheFirstFaultIsTold(t *testing.T) {
	for _, a := range kinds() {
		if a.want == api.OK {
			continue
		}
		for _, b := range faulty() {
			failVerify(t, []item{a, b}, a.want)
			failWrong(t, []item{a, b}, a.want)
			failVerify(t, []item{b, a}, b.want)
			failWrong(t, []item{b, a}, b.want)
			items := with(with(repeated(mineSealed(), 12), 10, a), 11, b)
			failVerify(t, items, a.want)
			failWrong(t, items, a.want)
		}
	}
}

func TestWOutOfRangeAtEachPlace(t *testing.T) {
	w, p := newWorld(t), pick(12)
	for _, n := range noWeights() {
		for many := 1; many <= 12; many++ {
			items := p.rights(w, many)
			for place, it := range items {
				failVerify(t, with(items, place, it.weighted(n)), api.ErrRange)
				failVerify(t, with(items, place, it.moved(1).weighted(n)), api.ErrRange)
				checkWrong(t, with(items, place, it.weighted(n)))
				checkWrong(t, with(items, place, it.moved(1).weighted(n)), place)
			}
		}
	}
}

// w is told behind the faults of its own place, and ahead of those of the next.
func TestWOutOfRangeBetweenFaults(t *testing.T) {
	one := mineSealed()
	for _, n := range noWeights() {
		for _, it := range faulty() {
			failVerify(t, []item{it.weighted(n)}, it.want)
			failVerify(t, []item{one, it.weighted(n), one.weighted(n)}, it.want)
			failVerify(t, []item{it, one.weighted(n)}, it.want)
			failVerify(t, []item{one.weighted(n), it}, api.ErrRange)
			failVerify(t, []item{one, one.weighted(n), it.weighted(n), one}, api.ErrRange)
			// To Wrong it is no fault.
			failWrong(t, []item{one.weighted(n), it, one.weighted(n)}, it.want)
		}
	}
}

// Each kind with each other one, up to three of them, each with a w that may be and with one that may not.
func TestEachKindWithEachOther(t *testing.T) {
	w := newWorld(t)
	var all []item
	for _, it := range kinds() {
		all = append(all, it, it.weighted(1012), it.weighted(0), it.weighted(1013))
	}
	for _, a := range all {
		w.checkFaults(t, []item{a})
		for _, b := range all {
			w.checkFaults(t, []item{a, b})
			for _, c := range all {
				w.checkFaults(t, []item{a, b, c})
			}
		}
	}
}

// Lists are read up to their length, and nothing is written into them, nor behind them.
func TestListsAreLeftAlone(t *testing.T) {
	w, p := newWorld(t), pick(13)
	items := with(p.rights(w, 12), 5, p.right(w).moved(1))
	items = append(items, kinds()[3], kinds()[4].weighted(0))
	keys, texts, l, weights := split(items)
	keptKeys, keptTexts, keptSeals, keptWeights := split(items)
	for _, n := range []int{5, 12, 13, 0, 6, 5} {
		got, err := Verify(keys[:n], texts[:n], l[:n], weights[:n])
		want, fault := n < 6, api.OK
		if n > 12 {
			fault = api.ErrFull
		}
		if got != want || plain.Told(err) != fault {
			t.Errorf("Verify of the first %d is %v, %v, want %v, %v", n, got, err, want, fault)
		}
		places, err := Wrong(keys[:n], texts[:n], l[:n])
		if (len(places) == 1) != (n == 6 || n == 12) || plain.Told(err) != fault {
			t.Errorf("Wrong of the first %d is %v, %v", n, places, err)
		}
		if !slices.Equal(keys, keptKeys) || !slices.Equal(texts, keptTexts) || !slices.Equal(l, keptSeals) || !slices.Equal(weights, keptWeights) {
			t.Fatalf("the lists are %v, %q, %v, %v, want %v, %q, %v, %v", keys, texts, l, weights, keptKeys, keptTexts, keptSeals, keptWeights)
		}
	}
}

// Nothing is kept: what is answered hangs on what the lists are then, not on what they were.
func TestNothingIsKept(t *testing.T) {
	one, bad := mineSealed(), mineSealed().moved(1)
	keys, texts, l, w := split([]item{one, bad, one, bad})
	first, err := Wrong(keys, texts, l)
	if !slices.Equal(first, []int{1, 3}) || err != nil {
		t.Fatalf("Wrong is %v, %v, want 1 and 3", first, err)
	}
	// The answer is the caller's: to write into it changes no list, and no later answer.
	kept := slices.Clone(first)
	for place := range first {
		first[place] = -1
	}
	second, err := Wrong(keys, texts, l)
	if !slices.Equal(second, kept) || err != nil {
		t.Errorf("Wrong is %v, %v, want %v", second, err, kept)
	}
	if is, err := Verify(keys, texts, l, w); is || err != nil {
		t.Errorf("Verify is %v, %v, want false", is, err)
	}
	l[1], l[3] = one.s, one.s
	if is, err := Verify(keys, texts, l, w); !is || err != nil {
		t.Errorf("Verify is %v, %v, want true", is, err)
	}
	third, err := Wrong(keys, texts, l)
	if len(third) != 0 || err != nil || !slices.Equal(second, kept) {
		t.Errorf("Wrong is %v, %v, want none, and %v as it was: %v", third, err, kept, second)
	}
	w[2] = 0
	if is, err := Verify(keys, texts, l, w); is || plain.Told(err) != api.ErrRange {
		t.Errorf("Verify is %v, %v, want ErrRange", is, err)
	}
}
