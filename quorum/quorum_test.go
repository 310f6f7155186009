package quorum

import (
	"math"
	"slices"
	"strings"
	"testing"

	"pairstone/api"
	"pairstone/curve"
	"pairstone/plain"
	"pairstone/seal"
	"pairstone/share"
	"pairstone/short"
)

var (
	far = api.Spot{Far: true}
	// flat has Y 0: twice it is Far, so that it does not count.
	flat = api.Spot{}
	base = api.Spot{X: 1189, Y: 3667}
	// out is out of range, and off is beside the curve.
	out = api.Spot{X: -1}
	off = api.Spot{Y: 1}
)

// The texts at the edge of what may be: letters of one byte, and of three.
var (
	full   = strings.Repeat("x", 60)
	over   = strings.Repeat("x", 61)
	euros  = strings.Repeat("\xe2\x82\xac", 20)
	bright = strings.Repeat("\xff", 60)
)

func ordinary() []string {
	return []string{"", "a", "pay 5", "pay 6", "\x00", "\x00\x00", "\xff", full[1:], full, euros, bright}
}

// overTexts are more bytes than may be, also where they are fewer letters, or so many that a number of one byte goes round.
func overTexts() []string {
	return []string{over, strings.Repeat("\xc3\xa9", 31), euros + "\x00", bright + "a", strings.Repeat("x", 120), strings.Repeat("x", 256), strings.Repeat("x", 256+60), strings.Repeat("\x00", 1<<20)}
}

// none are numbers that are no number modulo Q, also where their lower bits, or what is left of them, are one.
func none() []int {
	return []int{-1, -2, -1012, -1013, -1014, 1013, 1014, 1015, 2025, 2026, 4051, 4052, 4053, 1 << 16, 1 << 32, 1<<32 + 1, 1 << 62, math.MaxInt, math.MinInt, math.MinInt + 1}
}

// noPlace are numbers at which no share stands.
func noPlace() []int { return append(none(), 0) }

// wrongShares are those of which ErrRange is told: with a wrong X, a wrong Y, and both.
func wrongShares() (l []api.Share) {
	for _, x := range noPlace() {
		for _, y := range []int{0, 1, 500, 1012, -1, 1013, x} {
			l = append(l, api.Share{X: x, Y: y})
		}
	}
	for _, y := range none() {
		for _, x := range []int{1, 2, 500, 1012} {
			l = append(l, api.Share{X: x, Y: y})
		}
	}
	return l
}

// edges are numbers that X and Y may both be: the least, the greatest, and some between.
func edges() []int { return []int{1, 2, 3, 29, 506, 507, 1011, 1012} }

// tooMany are more than may be, also where a number of one or two bytes goes round.
func tooMany() []int { return []int{13, 14, 24, 25, 255, 256, 257, 256 + 12, 1 << 16, 1<<16 + 3} }

// world has all spots in a row, each as so many times the first one of it: sums of spots are those of their places, modulo Whole.
type world struct {
	row []api.Spot
	at  map[api.Spot]int
}

func newWorld(t *testing.T) world {
	t.Helper()
	first := api.Spot{X: 107, Y: 3793}
	w := world{at: map[api.Spot]int{}}
	for s := far; len(w.row) < 4052; {
		w.at[s] = len(w.row)
		w.row = append(w.row, s)
		next, err := curve.Add(s, first)
		if err != nil {
			t.Fatalf("Add(%v, %v): %v", s, first, err)
		}
		s = next
	}
	if len(w.at) != 4052 {
		t.Fatalf("%v comes by %d spots, want 4052", first, len(w.at))
	}
	return w
}

// times is n times a spot, n from 0 on.
func (w world) times(s api.Spot, n int) api.Spot { return w.row[n*w.at[s]%4052] }

// spot of a text, told without package hash.
func (w world) spot(text string) api.Spot {
	for k := range 256 {
		n := 5
		for _, b := range append([]byte(text), byte(k)) {
			n = (n*263 + int(b) + 1) % 1000003
		}
		if s, ok := w.lowest(n % 4051); ok && !w.times(s, 4).Far {
			return w.times(s, 4)
		}
	}
	return base
}

// lowest is the spot at x with the lesser Y, of those in the row.
func (w world) lowest(x int) (api.Spot, bool) {
	for y := range 2026 {
		s := api.Spot{X: x, Y: y}
		if _, ok := w.at[s]; ok {
			return s, true
		}
	}
	return api.Spot{}, false
}

// joined is what comes of parts at places, told by their places in the row.
func (w world) joined(xs []int, parts []api.Spot) api.Spot {
	sum := 0
	for k, s := range parts {
		sum += weightOf(xs, xs[k]) * w.at[s]
	}
	return w.row[sum%4052]
}

// weightOf a place, told without package share: the quotient is looked for among all numbers.
func weightOf(xs []int, at int) int {
	above, below := 1, 1
	for _, x := range xs {
		if x != at {
			above, below = above*x%1013, below*(x-at+1013)%1013
		}
	}
	for n := range 1013 {
		if n*below%1013 == above {
			return n
		}
	}
	return -1
}

// pick is a row of numbers that look as if by chance, the same ones each time.
type pick int

func (p *pick) below(n int) int {
	*p = (*p*1103515245 + 12345) & (1<<31 - 1)
	return int(*p>>8) % n
}

func (p *pick) numbers(many int) (l []int) {
	for range many {
		l = append(l, p.below(1013))
	}
	return l
}

// places are so many unlike ones.
func (p *pick) places(many int) (l []int) {
	for len(l) < many {
		if x := 1 + p.below(1012); !slices.Contains(l, x) {
			l = append(l, x)
		}
	}
	return l
}

func (p *pick) spots(w world, many int) (l []api.Spot) {
	for range many {
		l = append(l, w.row[p.below(4052)])
	}
	return l
}

func (p *pick) shuffled(l []api.Share) []api.Share {
	l = slices.Clone(l)
	for k := range l {
		other := k + p.below(len(l)-k)
		l[k], l[other] = l[other], l[k]
	}
	return l
}

// twelve are unlike places, those at the edges among them.
func twelve() []int { return []int{1, 1012, 2, 1011, 3, 1010, 4, 1009, 5, 1008, 506, 507} }

// upTo are the places 1 to n.
func upTo(n int) (l []int) {
	for x := range n {
		l = append(l, x+1)
	}
	return l
}

// ends are the first place of a list of so many, one in the middle, and the last.
func ends(many int) []int { return []int{0, many / 2, many - 1} }

func repeated[T any](s T, many int) []T { return slices.Repeat([]T{s}, many) }

// with is a list, but for another one at a place.
func with[T any](l []T, place int, other T) []T {
	l = slices.Clone(l)
	l[place] = other
	return l
}

// wrong is a spot, and what is told of it.
type wrong struct {
	s    api.Spot
	want api.Errno
}

// wrongs has spots that are none: out of range at each place, Far and somewhere, beside the curve.
func wrongs() (l []wrong) {
	for _, n := range []int{-1, -4051, 4051, 4052, math.MaxInt, math.MinInt} {
		l = append(l,
			wrong{api.Spot{X: n}, api.ErrRange},
			wrong{api.Spot{Y: n}, api.ErrRange},
			wrong{api.Spot{X: n, Y: 3667}, api.ErrRange},
			wrong{api.Spot{X: 1189, Y: n}, api.ErrRange},
			wrong{api.Spot{X: n, Far: true}, api.ErrRange},
			wrong{api.Spot{Y: n, Far: true}, api.ErrRange},
		)
	}
	return append(l,
		wrong{api.Spot{X: 1189 + 4051, Y: 3667}, api.ErrRange},
		wrong{api.Spot{X: 1189, Y: 3667 - 4051}, api.ErrRange},
		wrong{api.Spot{X: 1, Far: true}, api.ErrRange},
		wrong{api.Spot{X: 1189, Y: 3667, Far: true}, api.ErrRange},
		wrong{api.Spot{X: 1189, Y: 3666}, api.ErrShape},
		wrong{api.Spot{X: 1189}, api.ErrShape},
		wrong{api.Spot{Y: 1}, api.ErrShape},
		wrong{api.Spot{X: 4050, Y: 4050}, api.ErrShape},
	)
}

// beside has spots of the curve that do not count, one of each order: 2, 4, twice Q and Whole.
func beside() []api.Spot {
	return []api.Spot{flat, {X: 4050, Y: 90}, {X: 3180, Y: 1220}, {X: 107, Y: 3793}}
}

func checkPart(t *testing.T, s api.Share, text string, want api.Spot) {
	t.Helper()
	if got, err := Part(s, text); got != want || err != nil {
		t.Errorf("Part(%v, %q) is %v, %v, want %v", s, text, got, err, want)
	}
}

func failPart(t *testing.T, s api.Share, text string, want api.Errno) {
	t.Helper()
	if got, err := Part(s, text); got != (api.Spot{}) || plain.Told(err) != want {
		t.Errorf("Part(%v) of %d bytes is %v, %v, want %v", s, len(text), got, err, want)
	}
}

func TestPartByHand(t *testing.T) {
	cases := []struct {
		s    api.Share
		text string
		want api.Spot
	}{
		{api.Share{X: 1, Y: 1}, "", api.Spot{X: 2955, Y: 3893}},
		{api.Share{X: 1012, Y: 0}, "", far},
		{api.Share{X: 1, Y: 0}, full, far},
		{api.Share{X: 7, Y: 2}, "a", api.Spot{X: 2892, Y: 432}},
		{api.Share{X: 1, Y: 537}, "pay 5", api.Spot{X: 266, Y: 1918}},
		{api.Share{X: 3, Y: 588}, "pay 5", api.Spot{X: 3662, Y: 506}},
		{api.Share{X: 5, Y: 703}, "pay 5", api.Spot{X: 2082, Y: 1611}},
		{api.Share{X: 1, Y: 1012}, "pay 5", api.Spot{X: 812, Y: 3013}},
		{api.Share{X: 1012, Y: 1012}, full, api.Spot{X: 2915, Y: 3105}},
		{api.Share{X: 1, Y: 537}, full, api.Spot{X: 431, Y: 998}},
		{api.Share{X: 506, Y: 506}, "\x00", api.Spot{X: 3473, Y: 3889}},
		{api.Share{X: 2, Y: 1011}, "\xff", api.Spot{X: 33, Y: 108}},
		{api.Share{X: 300, Y: 300}, euros, api.Spot{X: 228, Y: 2992}},
	}
	for _, c := range cases {
		// What comes of the same is the same each time.
		for range 2 {
			checkPart(t, c.s, c.text, c.want)
		}
	}
}

func TestPartOfEachNumber(t *testing.T) {
	w := newWorld(t)
	for _, text := range ordinary() {
		s := w.spot(text)
		for y := range 1013 {
			checkPart(t, api.Share{X: 1 + y%1012, Y: y}, text, w.times(s, y))
		}
	}
}

// Where a share stands does not matter to its part.
func TestPartOfEachPlace(t *testing.T) {
	w := newWorld(t)
	s := w.spot("pay 5")
	for x := 1; x <= 1012; x++ {
		for _, y := range []int{0, 1, 500, 1012} {
			checkPart(t, api.Share{X: x, Y: y}, "pay 5", w.times(s, y))
		}
	}
}

func TestPartOfEachLength(t *testing.T) {
	w := newWorld(t)
	for n := range 61 {
		for _, text := range []string{full[:n], bright[:n], euros[:n], strings.Repeat("\x00", n)} {
			s := w.spot(text)
			for _, y := range append(edges(), 0) {
				checkPart(t, api.Share{X: n + 1, Y: y}, text, w.times(s, y))
			}
		}
	}
}

func TestPartTellsWrongNumbersFirst(t *testing.T) {
	for _, s := range wrongShares() {
		for _, text := range append(ordinary(), overTexts()...) {
			failPart(t, s, text, api.ErrRange)
		}
	}
}

func TestPartTellsATextThatIsTooLong(t *testing.T) {
	for _, text := range overTexts() {
		for _, x := range edges() {
			for _, y := range append(edges(), 0) {
				failPart(t, api.Share{X: x, Y: y}, text, api.ErrFull)
			}
		}
	}
}

func checkJoin(t *testing.T, xs []int, parts []api.Spot, want api.Spot) {
	t.Helper()
	if got, err := Join(xs, parts); got != want || err != nil {
		t.Errorf("Join(%v, %v) is %v, %v, want %v", xs, parts, got, err, want)
	}
}

func failJoin(t *testing.T, xs []int, parts []api.Spot, want api.Errno) {
	t.Helper()
	got, err := Join(xs, parts)
	if got == (api.Spot{}) && plain.Told(err) == want {
		return
	}
	if len(xs) > 24 || len(parts) > 24 {
		t.Errorf("Join of %d places and %d parts is %v, %v, want %v", len(xs), len(parts), got, err, want)
		return
	}
	t.Errorf("Join(%v, %v) is %v, %v, want %v", xs, parts, got, err, want)
}

// The parts are those of 29, 500 times x and 8 times its square, of "pay 5".
func TestJoinByHand(t *testing.T) {
	one, two, three := api.Spot{X: 266, Y: 1918}, api.Spot{X: 580, Y: 1563}, api.Spot{X: 3662, Y: 506}
	four, five := api.Spot{X: 743, Y: 3657}, api.Spot{X: 2082, Y: 1611}
	sig := api.Spot{X: 228, Y: 1059}
	checkJoin(t, []int{1, 2, 3}, []api.Spot{one, two, three}, sig)
	checkJoin(t, []int{5, 1, 3}, []api.Spot{five, one, three}, sig)
	checkJoin(t, []int{1, 3, 5}, []api.Spot{one, three, five}, sig)
	checkJoin(t, []int{1, 2, 3, 4, 5}, []api.Spot{one, two, three, four, five}, sig)
	checkJoin(t, []int{1012, 1, 506}, []api.Spot{{X: 703, Y: 3588}, one, {X: 572, Y: 1379}}, sig)
	// Two are not enough of them, and what they add up to is told all the same.
	checkJoin(t, []int{1, 2}, []api.Spot{one, two}, api.Spot{X: 1776, Y: 2712})
}

func TestJoinByHandOfOtherSpots(t *testing.T) {
	four, twice, whole := api.Spot{X: 4050, Y: 90}, api.Spot{X: 3180, Y: 1220}, api.Spot{X: 107, Y: 3793}
	cases := []struct {
		xs    []int
		parts []api.Spot
		want  api.Spot
	}{
		{[]int{1, 2, 3}, []api.Spot{base, base, base}, base},
		{[]int{1, 2, 3}, []api.Spot{far, far, far}, far},
		{[]int{1, 2}, []api.Spot{base, {X: 3695, Y: 2989}}, far},
		{[]int{2, 1}, []api.Spot{{X: 3695, Y: 2989}, base}, far},
		{[]int{1, 1012}, []api.Spot{base, {X: 1189, Y: 384}}, far},
		// What does not count is no fault. It hangs on the weight itself, not only on what is left modulo Q.
		{[]int{1, 2}, []api.Spot{far, flat}, far},
		{[]int{1, 2}, []api.Spot{flat, far}, far},
		{[]int{1, 2}, []api.Spot{four, far}, flat},
		{[]int{1, 2}, []api.Spot{far, four}, far},
		{[]int{1, 1012}, []api.Spot{four, far}, api.Spot{X: 4050, Y: 3961}},
		{[]int{1, 2}, []api.Spot{far, whole}, api.Spot{X: 2247, Y: 14}},
		{[]int{1, 2, 3}, []api.Spot{four, twice, whole}, api.Spot{X: 1483, Y: 3324}},
		{[]int{3, 1, 2}, []api.Spot{whole, base, flat}, api.Spot{X: 882, Y: 2509}},
	}
	for _, c := range cases {
		for range 2 {
			checkJoin(t, c.xs, c.parts, c.want)
		}
	}
}

func TestJoinOfOneIsIt(t *testing.T) {
	w := newWorld(t)
	for k, s := range w.row {
		checkJoin(t, []int{1 + k%1012}, []api.Spot{s}, s)
	}
	for x := 1; x <= 1012; x++ {
		for _, s := range []api.Spot{far, base, flat} {
			checkJoin(t, []int{x}, []api.Spot{s}, s)
		}
	}
}

func TestJoinOfAnySpotsAtAnyPlaces(t *testing.T) {
	w, p := newWorld(t), pick(1)
	for many := 1; many <= 12; many++ {
		for range 60 {
			xs, parts := p.places(many), p.spots(w, many)
			checkJoin(t, xs, parts, w.joined(xs, parts))
		}
		for _, xs := range [][]int{upTo(many), twelve()[:many], twelve()[12-many:]} {
			for range 20 {
				parts := p.spots(w, many)
				checkJoin(t, xs, parts, w.joined(xs, parts))
			}
		}
	}
}

// One of each kind at each place, among ordinary ones.
func TestJoinOfOneKindAtEachPlace(t *testing.T) {
	w, p := newWorld(t), pick(2)
	for _, s := range append(beside(), far, base) {
		for many := 1; many <= 12; many++ {
			xs, parts := p.places(many), p.spots(w, many)
			for place := range many {
				l := with(parts, place, s)
				checkJoin(t, xs, l, w.joined(xs, l))
				l = with(repeated(far, many), place, s)
				checkJoin(t, xs, l, w.joined(xs, l))
				l = with(repeated(base, many), place, s)
				checkJoin(t, xs, l, w.joined(xs, l))
			}
		}
	}
}

// Each weight goes with the part at its place, so that both lists may be turned round together.
func TestJoinInAnotherOrder(t *testing.T) {
	w, p := newWorld(t), pick(3)
	for many := 1; many <= 12; many++ {
		xs, parts := p.places(many), p.spots(w, many)
		want := w.joined(xs, parts)
		for range many {
			xs, parts = append(xs[1:many:many], xs[0]), append(parts[1:many:many], parts[0])
			checkJoin(t, xs, parts, want)
		}
		slices.Reverse(xs)
		slices.Reverse(parts)
		checkJoin(t, xs, parts, want)
	}
}

func TestJoinOfNone(t *testing.T) {
	for _, xs := range [][]int{nil, {}} {
		for _, parts := range [][]api.Spot{nil, {}} {
			failJoin(t, xs, parts, api.ErrNone)
		}
	}
}

// That they are not as many is told ahead of whatever else is wrong, also of there being none, and too many.
func TestJoinTellsNotAsManyFirst(t *testing.T) {
	for _, s := range []api.Spot{base, far, flat, out, off} {
		for k := range 27 {
			for n := range 27 {
				if k == n {
					continue
				}
				failJoin(t, upTo(k), repeated(s, n), api.ErrShape)
				failJoin(t, repeated(0, k), repeated(s, n), api.ErrShape)
				failJoin(t, repeated(5, k), repeated(s, n), api.ErrShape)
			}
		}
		for _, many := range tooMany() {
			for _, other := range []int{0, 1, 12, many - 1, many + 1, 256 + many} {
				failJoin(t, upTo(many), repeated(s, other), api.ErrShape)
				failJoin(t, upTo(other), repeated(s, many), api.ErrShape)
			}
		}
	}
}

func TestJoinTellsTooManyAheadOfTheRest(t *testing.T) {
	for _, many := range tooMany() {
		for _, s := range []api.Spot{base, far, flat, out, off} {
			failJoin(t, upTo(many), repeated(s, many), api.ErrFull)
			failJoin(t, repeated(0, many), repeated(s, many), api.ErrFull)
			failJoin(t, repeated(5, many), repeated(s, many), api.ErrFull)
		}
	}
	checkJoin(t, upTo(12), repeated(base, 12), base)
	checkJoin(t, twelve(), repeated(base, 12), base)
}

func TestJoinTellsOfWrongPlaces(t *testing.T) {
	for _, x := range noPlace() {
		for many := 1; many <= 12; many++ {
			for place := range many {
				// Told ahead of whatever is wrong with a part.
				for _, s := range []api.Spot{base, far, flat, out, off} {
					failJoin(t, with(twelve()[:many], place, x), repeated(s, many), api.ErrRange)
				}
			}
		}
	}
}

func TestJoinTellsOfPlacesThatWereThere(t *testing.T) {
	for many := 2; many <= 12; many++ {
		for place := 1; place < many; place++ {
			for ahead := range place {
				xs := with(twelve()[:many], place, twelve()[ahead])
				for _, s := range []api.Spot{base, far, flat, out, off} {
					failJoin(t, xs, repeated(s, many), api.ErrClash)
				}
			}
		}
	}
}

func TestJoinTellsTheFirstFaultOfPlaces(t *testing.T) {
	for _, x := range noPlace() {
		for _, s := range []api.Spot{base, out, off} {
			failJoin(t, []int{3, 3, x}, repeated(s, 3), api.ErrClash)
			failJoin(t, []int{3, x, 3}, repeated(s, 3), api.ErrRange)
			failJoin(t, []int{x, 3, 3}, repeated(s, 3), api.ErrRange)
			failJoin(t, []int{x, x}, repeated(s, 2), api.ErrRange)
			failJoin(t, []int{3, 5, 3, 7, x}, repeated(s, 5), api.ErrClash)
		}
	}
	// A part that has a fault ahead of the place that has one is told behind it.
	failJoin(t, []int{3, 5, 3}, []api.Spot{out, base, base}, api.ErrClash)
	failJoin(t, []int{3, 5, 3}, []api.Spot{off, out, base}, api.ErrClash)
	failJoin(t, []int{3, 5, 0}, []api.Spot{off, base, base}, api.ErrRange)
	failJoin(t, []int{3, 5, 1013}, []api.Spot{base, off, base}, api.ErrRange)
}

func TestJoinTellsOfAWrongPartAtEachPlace(t *testing.T) {
	p := pick(4)
	for _, a := range wrongs() {
		for many := 1; many <= 12; many++ {
			xs := p.places(many)
			for place := range many {
				for _, s := range []api.Spot{far, base, flat} {
					failJoin(t, xs, with(repeated(s, many), place, a.s), a.want)
				}
			}
		}
	}
}

func TestJoinTellsTheFirstPartThatHasAFault(t *testing.T) {
	for _, a := range wrongs() {
		for _, b := range wrongs() {
			failJoin(t, []int{1, 2}, []api.Spot{a.s, b.s}, a.want)
			failJoin(t, []int{9, 7, 5, 3, 1}, []api.Spot{base, a.s, flat, b.s, far}, a.want)
			failJoin(t, twelve(), with(with(repeated(base, 12), 0, a.s), 11, b.s), a.want)
		}
	}
}

func checkPublic(t *testing.T, l []api.Share, want []api.Spot) {
	t.Helper()
	if got, err := Public(l); !slices.Equal(got, want) || err != nil {
		t.Errorf("Public(%v) is %v, %v, want %v", l, got, err, want)
	}
}

func failPublic(t *testing.T, l []api.Share, want api.Errno) {
	t.Helper()
	if got, err := Public(l); len(got) != 0 || plain.Told(err) != want {
		t.Errorf("Public of %d is %v, %v, want none, %v: %v", len(l), got, err, want, l[:min(len(l), 24)])
	}
}

func TestPublicByHand(t *testing.T) {
	l := []api.Share{{X: 1, Y: 537}, {X: 2, Y: 48}, {X: 3, Y: 588}, {X: 4, Y: 131}, {X: 5, Y: 703}}
	keys := []api.Spot{{X: 881, Y: 2312}, {X: 2543, Y: 2614}, {X: 2859, Y: 1875}, {X: 353, Y: 3878}, {X: 2892, Y: 3619}}
	for many := range len(l) + 1 {
		checkPublic(t, l[:many], keys[:many])
		checkPublic(t, l[many:], keys[many:])
	}
	checkPublic(t, []api.Share{{X: 1012, Y: 0}}, []api.Spot{far})
	checkPublic(t, []api.Share{{X: 1, Y: 1}}, []api.Spot{base})
	checkPublic(t, []api.Share{{X: 1, Y: 1012}, {X: 1012, Y: 1011}}, []api.Spot{{X: 1189, Y: 384}, {X: 3695, Y: 1062}})
	// Places that are alike, and shares that are, are no fault.
	checkPublic(t, []api.Share{{X: 7, Y: 2}, {X: 7, Y: 506}, {X: 7, Y: 2}}, []api.Spot{{X: 3695, Y: 2989}, {X: 1521, Y: 1602}, {X: 3695, Y: 2989}})
}

func TestPublicOfNone(t *testing.T) {
	checkPublic(t, nil, nil)
	checkPublic(t, []api.Share{}, nil)
}

func TestPublicOfEachNumber(t *testing.T) {
	w := newWorld(t)
	for y := range 1013 {
		checkPublic(t, []api.Share{{X: 1 + y%1012, Y: y}}, []api.Spot{w.times(base, y)})
		checkPublic(t, []api.Share{{X: 1012 - y%1012, Y: y}}, []api.Spot{w.times(base, y)})
	}
}

func TestPublicOfHowMany(t *testing.T) {
	w, p := newWorld(t), pick(5)
	for many := 1; many <= 12; many++ {
		for range 10 {
			var l []api.Share
			var want []api.Spot
			for _, y := range p.numbers(many) {
				l = append(l, api.Share{X: 1 + p.below(1012), Y: y})
				want = append(want, w.times(base, y))
			}
			checkPublic(t, l, want)
			for _, place := range ends(many) {
				checkPublic(t, with(l, place, api.Share{X: 1012}), with(want, place, far))
				checkPublic(t, with(l, place, api.Share{X: 1, Y: 1012}), with(want, place, api.Spot{X: 1189, Y: 384}))
			}
		}
	}
}

func TestPublicTellsTooManyFirst(t *testing.T) {
	for _, many := range tooMany() {
		l := repeated(api.Share{X: 1, Y: 1}, many)
		failPublic(t, l, api.ErrFull)
		for _, place := range ends(many) {
			failPublic(t, with(l, place, api.Share{X: 0, Y: 1}), api.ErrFull)
			failPublic(t, with(l, place, api.Share{X: 1, Y: 1013}), api.ErrFull)
		}
		checkPublic(t, l[:12], repeated(base, 12))
	}
}

func TestPublicTellsOfAWrongShareAtEachPlace(t *testing.T) {
	for _, s := range wrongShares() {
		for many := 1; many <= 12; many++ {
			l := repeated(api.Share{X: 5, Y: 7}, many)
			for place := range many {
				failPublic(t, with(l, place, s), api.ErrRange)
			}
			failPublic(t, with(with(l, 0, s), many-1, s), api.ErrRange)
		}
	}
}

// Lists are read up to their length, and nothing is written into them, nor behind them.
func TestListsAreLeftAlone(t *testing.T) {
	xs := append(twelve(), 0, 1)
	parts := append(repeated(base, 11), flat, out, off)
	l := append(repeated(api.Share{X: 3, Y: 1}, 12), api.Share{X: -1, Y: -1}, api.Share{})
	keptXs, keptParts, kept := slices.Clone(xs), slices.Clone(parts), slices.Clone(l)
	for many := range 15 {
		for other := range 15 {
			Join(xs[:many], parts[:other])
			Join(xs[many:], parts[other:])
		}
		Public(l[:many])
		Public(l[many:])
	}
	checkJoin(t, xs[:11], parts[:11], base)
	checkJoin(t, xs[:1], parts[11:12], flat)
	failJoin(t, xs[:0], parts[:0], api.ErrNone)
	checkPublic(t, l[:12], repeated(base, 12))
	checkPublic(t, l[:0], nil)
	failPublic(t, l[11:13], api.ErrRange)
	if !slices.Equal(xs, keptXs) || !slices.Equal(parts, keptParts) || !slices.Equal(l, kept) {
		t.Errorf("lists are %v, %v and %v, were %v, %v and %v", xs, parts, l, keptXs, keptParts, kept)
	}
}

func TestAnswersAreFresh(t *testing.T) {
	l := []api.Share{{X: 1, Y: 1}, {X: 2, Y: 2}}
	want := []api.Spot{base, {X: 3695, Y: 2989}}
	first, _ := Public(l)
	second, _ := Public(l)
	first[0], first[1] = out, out
	_ = append(first[:1], off)
	if !slices.Equal(second, want) {
		t.Errorf("two answers share memory: %v, want %v", second, want)
	}
	checkPublic(t, l, want)
	// Nothing of a list is kept: with other numbers in it the answer is another one.
	l[0].Y = 0
	checkPublic(t, l, []api.Spot{far, want[1]})
	if !slices.Equal(second, want) {
		t.Errorf("an answer hangs on the list: %v, want %v", second, want)
	}
	xs, parts := []int{1, 2}, []api.Spot{base, far}
	checkJoin(t, xs, parts, want[1])
	xs[1], parts[1] = 1012, base
	checkJoin(t, xs, parts, base)
}

// signers has the shares of a secret, their parts of a text, and their keys, by X.
type signers struct {
	shares      []api.Share
	parts, keys map[int]api.Spot
}

func newSigners(t *testing.T, shares []api.Share, text string) signers {
	t.Helper()
	g := signers{shares: shares, parts: map[int]api.Spot{}, keys: map[int]api.Spot{}}
	keys, err := Public(shares)
	if err != nil || len(keys) != len(shares) {
		t.Fatalf("Public(%v) is %v, %v", shares, keys, err)
	}
	for k, s := range shares {
		part, err := Part(s, text)
		if err != nil {
			t.Fatalf("Part(%v, %q): %v", s, text, err)
		}
		g.parts[s.X], g.keys[s.X] = part, keys[k]
	}
	return g
}

// of has the places of some of them, and what stands there.
func of(l []api.Share, at map[int]api.Spot) (xs []int, spots []api.Spot) {
	for _, s := range l {
		xs, spots = append(xs, s.X), append(spots, at[s.X])
	}
	return xs, spots
}

// checkSealed sees that these of them seal as one: as the secret, and under its key.
func (g signers) checkSealed(t *testing.T, l []api.Share, sig, key api.Spot) {
	t.Helper()
	xs, parts := of(l, g.parts)
	checkJoin(t, xs, parts, sig)
	_, keys := of(l, g.keys)
	checkJoin(t, xs, keys, key)
}

// sealedBy is the short seal and the key of a secret; both are Far of 0, which seals nothing by itself.
func sealedBy(t *testing.T, secret int, text string) (sig, key api.Spot) {
	t.Helper()
	if secret == 0 {
		return far, far
	}
	sig, err := short.Sign(secret, text)
	if err != nil {
		t.Fatalf("Sign(%d, %q): %v", secret, text, err)
	}
	key, err = seal.Key(secret)
	if err != nil {
		t.Fatalf("Key(%d): %v", secret, err)
	}
	return sig, key
}

func split(t *testing.T, coefs []int, n int) []api.Share {
	t.Helper()
	l, err := share.Split(coefs, n)
	if err != nil {
		t.Fatalf("Split(%v, %d): %v", coefs, n, err)
	}
	return l
}

// chosen are those of a list whose bits are set.
func chosen(l []api.Share, bits int) (out []api.Share) {
	for k, s := range l {
		if bits>>k&1 == 1 {
			out = append(out, s)
		}
	}
	return out
}

func TestAnySoManySealAsOne(t *testing.T) {
	p := pick(6)
	for many := 1; many <= 12; many++ {
		text := ordinary()[many%len(ordinary())]
		coefs := with(p.numbers(many), 0, 1+p.below(1012))
		sig, key := sealedBy(t, coefs[0], text)
		g := newSigners(t, split(t, coefs, 12), text)
		for bits := range 1 << 12 {
			if l := chosen(g.shares, bits); len(l) >= many {
				g.checkSealed(t, p.shuffled(l), sig, key)
			}
		}
	}
}

func TestEachOrderSealsAsOne(t *testing.T) {
	sig, key := sealedBy(t, 29, "pay 5")
	g := newSigners(t, split(t, []int{29, 500, 8}, 5), "pay 5")
	l := g.shares
	for a := range 5 {
		for b := range 5 {
			for c := range 5 {
				if a != b && b != c && a != c {
					g.checkSealed(t, []api.Share{l[a], l[b], l[c]}, sig, key)
				}
			}
		}
	}
}

func TestEachSecretIsSealedAsOne(t *testing.T) {
	p := pick(7)
	for secret := range 1013 {
		text := ordinary()[secret%len(ordinary())]
		sig, key := sealedBy(t, secret, text)
		g := newSigners(t, split(t, []int{secret, p.below(1013), p.below(1013)}, 5), text)
		g.checkSealed(t, p.shuffled(g.shares)[:3+secret%3], sig, key)
	}
}

// Shares may stand at any places, those at the edges too.
func TestAnyPlacesSealAsOne(t *testing.T) {
	p := pick(8)
	for places := 1; places <= 12; places++ {
		for _, xs := range [][]int{twelve()[:places], p.places(places), p.places(places)} {
			coefs := with(p.numbers(1+p.below(places)), 0, 1+p.below(1012))
			var l []api.Share
			for _, x := range xs {
				y := 0
				for k := len(coefs) - 1; k >= 0; k-- {
					y = (y*x + coefs[k]) % 1013
				}
				l = append(l, api.Share{X: x, Y: y})
			}
			sig, key := sealedBy(t, coefs[0], euros)
			newSigners(t, l, euros).checkSealed(t, l, sig, key)
		}
	}
}

func checkVerify(t *testing.T, key api.Spot, text string, sig api.Spot, want bool) {
	t.Helper()
	if got, err := short.Verify(key, text, sig); got != want || err != nil {
		t.Errorf("Verify(%v, %q, %v) is %v, %v, want %v", key, text, sig, got, err, want)
	}
}

// Each part is right under the key of its share alone, and what is joined under the joined key.
func TestPartsAndWhatIsJoinedAreVerified(t *testing.T) {
	for _, text := range ordinary() {
		g := newSigners(t, split(t, []int{29, 500, 8}, 5), text)
		for _, s := range g.shares {
			for _, other := range g.shares {
				checkVerify(t, g.keys[other.X], text, g.parts[s.X], s == other)
			}
			checkVerify(t, g.keys[s.X], "another", g.parts[s.X], false)
		}
		xs, parts := of(g.shares[1:4], g.parts)
		_, keys := of(g.shares[1:4], g.keys)
		sig, key := mustJoin(t, xs, parts), mustJoin(t, xs, keys)
		checkVerify(t, key, text, sig, true)
		checkVerify(t, key, "another", sig, false)
		// With the part of another share at one place it is not right.
		for place := range parts {
			checkVerify(t, key, text, mustJoin(t, xs, with(parts, place, g.parts[5])), false)
		}
	}
}

func mustJoin(t *testing.T, xs []int, parts []api.Spot) api.Spot {
	t.Helper()
	s, err := Join(xs, parts)
	if err != nil {
		t.Fatalf("Join(%v, %v): %v", xs, parts, err)
	}
	return s
}

// Of one part fewer than there are coefficients, what is joined may be the seal of any secret.
func TestFewerLeaveItOpen(t *testing.T) {
	seen := map[api.Spot]bool{}
	for slope := range 1013 {
		// At 7 each of these polynomials is 100, so that the first part is the same one each time.
		coefs := []int{((100-7*slope)%1013 + 1013) % 1013, slope}
		sig, key := sealedBy(t, coefs[0], "pay 5")
		g := newSigners(t, split(t, coefs, 8)[6:], "pay 5")
		if want, _ := short.Sign(100, "pay 5"); g.parts[7] != want {
			t.Fatalf("the part at 7 of %v is %v, want %v", coefs, g.parts[7], want)
		}
		g.checkSealed(t, g.shares, sig, key)
		seen[sig] = true
	}
	if len(seen) != 1013 {
		t.Errorf("%d seals, want 1013", len(seen))
	}
}
