package ring

import (
	"math"
	"slices"
	"strings"
	"testing"

	"pairstone/api"
	"pairstone/curve"
	"pairstone/plain"
)

var (
	far = api.Spot{Far: true}
	// flat has Y 0: twice it is Far, so that it does not count.
	flat  = api.Spot{}
	base  = api.Spot{X: 1189, Y: 3667}
	minus = api.Spot{X: 1189, Y: 384}
	// four, twice and whole are on the curve but do not count: their orders are 4, twice Q and Whole.
	four  = api.Spot{X: 4050, Y: 90}
	twice = api.Spot{X: 3180, Y: 1220}
	whole = api.Spot{X: 107, Y: 3793}
	// wide has a number out of range, and off is beside the curve.
	wide = api.Spot{X: 4051}
	off  = api.Spot{X: 1189, Y: 3666}
	// mine and yours are the keys of 29 and 77.
	mine  = api.Spot{X: 1710, Y: 1841}
	yours = api.Spot{X: 1742, Y: 2049}
)

// The texts at the edge of what may be: letters of one byte, and of three.
var (
	full   = strings.Repeat("x", 60)
	over   = strings.Repeat("x", 61)
	euros  = strings.Repeat("\xe2\x82\xac", 20)
	bright = strings.Repeat("\xff", 60)
)

func ordinary() []string {
	return []string{"", "a", "pay 5", "pay 6", "\x00", "\x00\x00", "\xff", full[1:], full, euros, bright}
}

// overTexts are more bytes than may be, also where they are fewer letters, or so many that a number of one byte goes round.
func overTexts() []string {
	return []string{over, strings.Repeat("\xc3\xa9", 31), euros + "\x00", bright + "a", strings.Repeat("x", 120), strings.Repeat("x", 256), strings.Repeat("x", 256+60), strings.Repeat("\x00", 1<<20)}
}

// outside are numbers that are not from 0 to Q - 1, some of which are one modulo Q, or in their lower bits.
func outside() []int {
	return []int{-1, -2, -1012, -1013, -1014, 1013, 1014, 2025, 2026, 4051, 4052, 4053, 1 << 16, 1 << 32, 1<<32 + 1, 1 << 62, math.MaxInt, math.MinInt, math.MinInt + 1}
}

// noSecrets are outside, and 0.
func noSecrets() []int { return append(outside(), 0) }

// edges are numbers that may be secrets: the least, the greatest, and some between.
func edges() []int { return []int{1, 2, 29, 506, 507, 1011, 1012} }

// noPlaces are numbers that are no place of so many keys, some of which are one when they go round.
func noPlaces(many int) []int {
	return []int{-1, -many, -many - 1, many, many + 1, 2 * many, 12, 13, 256, 1 << 32, math.MaxInt, math.MinInt}
}

// tooMany are more than may be, also where a number of one or two bytes goes round.
func tooMany() []int { return []int{13, 14, 24, 25, 255, 256, 257, 256 + 12, 1 << 16, 1<<16 + 3} }

// beside has spots of the curve that do not count, one of each order: 2, 4, twice Q and Whole.
func beside() []api.Spot { return []api.Spot{flat, four, twice, whole} }

// wrong is a spot, and what is told of it: OK, if it is right.
type wrong struct {
	s    api.Spot
	want api.Errno
}

// wrongs has spots that are none: out of range at each place, Far and somewhere, beside the curve.
func wrongs() (l []wrong) {
	for _, n := range []int{-1, -4051, 4051, 4052, 1 << 16, math.MaxInt, math.MinInt} {
		l = append(l,
			wrong{api.Spot{X: n}, api.ErrRange},
			wrong{api.Spot{Y: n}, api.ErrRange},
			wrong{api.Spot{X: n, Y: 3667}, api.ErrRange},
			wrong{api.Spot{X: 1189, Y: n}, api.ErrRange},
			wrong{api.Spot{X: n, Far: true}, api.ErrRange},
			wrong{api.Spot{Y: n, Far: true}, api.ErrRange},
		)
	}
	return append(l,
		wrong{api.Spot{X: 1189 + 4051, Y: 3667}, api.ErrRange},
		wrong{api.Spot{X: 1189, Y: 3667 - 4051}, api.ErrRange},
		wrong{api.Spot{X: 1, Far: true}, api.ErrRange},
		wrong{api.Spot{X: 1189, Y: 3667, Far: true}, api.ErrRange},
		wrong{off, api.ErrShape},
		wrong{api.Spot{X: 1189}, api.ErrShape},
		wrong{api.Spot{Y: 1}, api.ErrShape},
		wrong{api.Spot{X: 4050, Y: 4050}, api.ErrShape},
	)
}

// kinds has one of each kind of spot.
func kinds() []wrong {
	return []wrong{
		{far, api.OK}, {base, api.OK}, {whole, api.OK},
		{wide, api.ErrRange}, {api.Spot{X: 1, Far: true}, api.ErrRange}, {off, api.ErrShape},
	}
}

// world has all spots in a row, each as so many times the first one of it: sums of spots are those of their places, modulo Whole.
type world struct {
	row []api.Spot
	at  map[api.Spot]int
}

func newWorld(t *testing.T) world {
	t.Helper()
	w := world{at: map[api.Spot]int{}}
	for s := far; len(w.row) < 4052; {
		w.at[s] = len(w.row)
		w.row = append(w.row, s)
		next, err := curve.Add(s, whole)
		if err != nil {
			t.Fatalf("Add(%v, %v): %v", s, whole, err)
		}
		s = next
	}
	if len(w.at) != 4052 {
		t.Fatalf("%v comes by %d spots, want 4052", whole, len(w.at))
	}
	return w
}

// key of a secret.
func (w world) key(x int) api.Spot { return w.row[x*w.at[base]%4052] }

func (w world) keys(xs []int) (l []api.Spot) {
	for _, x := range xs {
		l = append(l, w.key(x))
	}
	return l
}

// numbers from C on: the one ahead of each key, and at last the one behind all of them, told by places.
func (w world) numbers(keys []api.Spot, text string, z api.Ringed) []int {
	l := []int{z.C}
	for place, key := range keys {
		r := w.row[(z.S[place]*w.at[base]+l[place]*w.at[key])%4052]
		l = append(l, asked(keys, r, text))
	}
	return l
}

// right tells by places whether a seal is.
func (w world) right(keys []api.Spot, text string, z api.Ringed) bool {
	return w.numbers(keys, text, z)[len(keys)] == z.C
}

// signed is what Sign says by the words of the document: from behind the place on, around, up to it.
func (w world) signed(keys []api.Spot, at, x, k int, s []int, text string) api.Ringed {
	z := api.Ringed{S: slices.Clone(s)}
	n := asked(keys, w.key(k), text)
	for place := at + 1; ; place++ {
		if place == len(keys) {
			place, z.C = 0, n
		}
		if place == at {
			z.S[at] = ((k-n*x)%1013 + 1013) % 1013
			return z
		}
		n = asked(keys, w.row[(s[place]*w.at[base]+n*w.at[keys[place]])%4052], text)
	}
}

// packed has the bytes of a spot, told without package bytes.
func packed(s api.Spot) []byte {
	switch {
	case s.Far:
		return []byte{0}
	case s.Y <= (4051-s.Y)%4051:
		return []byte{1, byte(s.X / 256), byte(s.X % 256)}
	}
	return []byte{2, byte(s.X / 256), byte(s.X % 256)}
}

// asked is Ask of what is right, told without packages bytes and hash.
func asked(keys []api.Spot, r api.Spot, text string) int {
	all := []byte{byte(len(keys))}
	for _, s := range keys {
		all = append(all, packed(s)...)
	}
	all = append(append(all, packed(r)...), text...)
	n := 5
	for _, b := range all {
		n = (n*263 + int(b) + 1) % 1000003
	}
	return n % 1013
}

// pick is a row of numbers that look as if by chance, the same ones each time.
type pick int

func (p *pick) below(n int) int {
	*p = (*p*1103515245 + 12345) & (1<<31 - 1)
	return int(*p>>8) % n
}

// secret is a number from 1 to Q - 1.
func (p *pick) secret() int { return 1 + p.below(1012) }

func (p *pick) secrets(many int) (l []int) {
	for range many {
		l = append(l, p.secret())
	}
	return l
}

// answers are numbers from 0 to Q - 1.
func (p *pick) answers(many int) (l []int) {
	for range many {
		l = append(l, p.below(1013))
	}
	return l
}

func (p *pick) spots(w world, many int) (l []api.Spot) {
	for range many {
		l = append(l, w.row[p.below(4052)])
	}
	return l
}

func repeated[T any](s T, many int) []T { return slices.Repeat([]T{s}, many) }

// with is a list, but for another one at a place.
func with[T any](l []T, place int, other T) []T {
	l = slices.Clone(l)
	l[place] = other
	return l
}

// spotsOf are the spots alone.
func spotsOf(l []wrong) (spots []api.Spot) {
	for _, a := range l {
		spots = append(spots, a.s)
	}
	return spots
}

func isOutside(n int) bool { return n < 0 || n > 1012 }

// askFault is what Ask tells, in the order that the document names.
func askFault(keys []wrong, r wrong, text string) api.Errno {
	if len(keys) > 12 {
		return api.ErrFull
	}
	for _, a := range append(slices.Clone(keys), r) {
		if a.want != api.OK {
			return a.want
		}
	}
	switch {
	case len(keys) == 0:
		return api.ErrNone
	case len(text) > 60:
		return api.ErrFull
	}
	return api.OK
}

// verifyFault is what Verify tells, in the order that the document names.
func verifyFault(keys []wrong, text string, z api.Ringed) api.Errno {
	if want := askFault(keys, wrong{}, text); want != api.OK {
		return want
	}
	switch {
	case len(z.S) != len(keys):
		return api.ErrShape
	case isOutside(z.C) || slices.ContainsFunc(z.S, isOutside):
		return api.ErrRange
	}
	return api.OK
}

// signFault is what Sign tells, in the order that the document names.
func (w world) signFault(keys []wrong, at, x, k int, s []int, text string) api.Errno {
	if want := askFault(keys, wrong{}, text); want != api.OK {
		return want
	}
	switch {
	case len(s) != len(keys):
		return api.ErrShape
	case at < 0 || at >= len(keys) || isOutside(x) || isOutside(k) || x == 0 || k == 0:
		return api.ErrRange
	case slices.ContainsFunc(with(s, at, 0), isOutside):
		return api.ErrRange
	case w.key(x) != keys[at].s:
		return api.ErrWrong
	}
	return api.OK
}

func checkAsk(t *testing.T, keys []api.Spot, r api.Spot, text string, want int) {
	t.Helper()
	if got, err := Ask(keys, r, text); got != want || err != nil {
		t.Errorf("Ask(%v, %v, %q) is %d, %v, want %d", keys, r, text, got, err, want)
	}
}

// checkAsked is checkAsk of what is right.
func checkAsked(t *testing.T, keys []api.Spot, r api.Spot, text string) {
	t.Helper()
	checkAsk(t, keys, r, text, asked(keys, r, text))
}

func failAsk(t *testing.T, keys []api.Spot, r api.Spot, text string, want api.Errno) {
	t.Helper()
	if got, err := Ask(keys, r, text); got != 0 || plain.Told(err) != want {
		t.Errorf("Ask of %d keys, %v, %d bytes is %d, %v, want %v: %v", len(keys), r, len(text), got, err, want, keys[:min(len(keys), 24)])
	}
}

func checkSign(t *testing.T, keys []api.Spot, at, x, k int, s []int, text string, want api.Ringed) {
	t.Helper()
	got, err := Sign(keys, at, x, k, s, text)
	if got.C != want.C || !slices.Equal(got.S, want.S) || err != nil {
		t.Errorf("Sign(%v, %d, %d, %d, %v, %q) is %v, %v, want %v", keys, at, x, k, s, text, got, err, want)
	}
}

// checkSigned is checkSign of what is right; what is sealed must be right as well.
func (w world) checkSigned(t *testing.T, keys []api.Spot, at, x, k int, s []int, text string) {
	t.Helper()
	want := w.signed(keys, at, x, k, s, text)
	checkSign(t, keys, at, x, k, s, text, want)
	checkVerify(t, keys, text, want, true)
}

func failSign(t *testing.T, keys []api.Spot, at, x, k int, s []int, text string, want api.Errno) {
	t.Helper()
	got, err := Sign(keys, at, x, k, s, text)
	if got.C != 0 || len(got.S) != 0 || plain.Told(err) != want {
		t.Errorf("Sign of %d keys, %d, %d, %d, %d answers, %d bytes is %v, %v, want %v: %v, %v", len(keys), at, x, k, len(s), len(text), got, err, want, keys[:min(len(keys), 24)], s[:min(len(s), 24)])
	}
}

func mustSign(t *testing.T, keys []api.Spot, at, x, k int, s []int, text string) api.Ringed {
	t.Helper()
	z, err := Sign(keys, at, x, k, s, text)
	if err != nil {
		t.Fatalf("Sign(%v, %d, %d, %d, %v, %q): %v", keys, at, x, k, s, text, err)
	}
	return z
}

func checkVerify(t *testing.T, keys []api.Spot, text string, z api.Ringed, want bool) {
	t.Helper()
	if got, err := Verify(keys, text, z); got != want || err != nil {
		t.Errorf("Verify(%v, %q, %v) is %v, %v, want %v", keys, text, z, got, err, want)
	}
}

// checkVerified is checkVerify of what is in range, told by places.
func (w world) checkVerified(t *testing.T, keys []api.Spot, text string, z api.Ringed) {
	t.Helper()
	checkVerify(t, keys, text, z, w.right(keys, text, z))
}

func failVerify(t *testing.T, keys []api.Spot, text string, z api.Ringed, want api.Errno) {
	t.Helper()
	if got, err := Verify(keys, text, z); got || plain.Told(err) != want {
		t.Errorf("Verify of %d keys, %d bytes, %d and %d answers is %v, %v, want %v: %v, %v", len(keys), len(text), z.C, len(z.S), got, err, want, keys[:min(len(keys), 24)], z.S[:min(len(z.S), 24)])
	}
}

func TestAskByHand(t *testing.T) {
	cases := []struct {
		keys []api.Spot
		r    api.Spot
		text string
		want int
	}{
		{[]api.Spot{base}, far, "", 1000},
		{[]api.Spot{base}, base, "", 796},
		{[]api.Spot{base}, minus, "a", 376},
		// It hangs on the order of the keys, on r and on the text.
		{[]api.Spot{base, minus}, far, "pay 5", 913},
		{[]api.Spot{minus, base}, far, "pay 5", 165},
		{[]api.Spot{base, minus}, whole, "pay 5", 700},
		// Far, and what does not count, is no fault.
		{[]api.Spot{far}, far, "", 342},
		{[]api.Spot{far, far}, far, "", 491},
		{[]api.Spot{far}, flat, "", 437},
		{[]api.Spot{flat}, four, full, 75},
		{[]api.Spot{four, twice, whole}, flat, bright, 786},
		{[]api.Spot{whole, four}, twice, euros, 55},
		{[]api.Spot{far, flat, four, twice, whole, base, minus}, minus, "pay 6", 963},
		// As many as may be.
		{repeated(base, 12), base, full, 316},
		{repeated(far, 12), far, "\x00", 611},
		{repeated(flat, 12), flat, "\x00\x00", 74},
		// It may be 0.
		{[]api.Spot{mine, yours}, api.Spot{X: 750, Y: 2151}, "pay 5", 0},
	}
	for _, c := range cases {
		// What comes of the same is the same each time.
		for range 2 {
			checkAsk(t, c.keys, c.r, c.text, c.want)
		}
	}
}

func TestAskOfEachSpot(t *testing.T) {
	w := newWorld(t)
	for _, s := range w.row {
		checkAsked(t, []api.Spot{base}, s, "pay 5")
		checkAsked(t, []api.Spot{s}, base, "pay 5")
		checkAsked(t, []api.Spot{s}, s, "")
		checkAsked(t, []api.Spot{flat, s}, far, full)
		checkAsked(t, []api.Spot{s, flat}, whole, full)
	}
}

func TestAskOfHowMany(t *testing.T) {
	w, p := newWorld(t), pick(1)
	for many := 1; many <= 12; many++ {
		for _, text := range ordinary() {
			checkAsked(t, p.spots(w, many), w.row[p.below(4052)], text)
			checkAsked(t, w.keys(p.secrets(many)), w.key(p.secret()), text)
			for _, s := range append(beside(), far, base, minus) {
				checkAsked(t, repeated(s, many), s, text)
				checkAsked(t, with(p.spots(w, many), p.below(many), s), base, text)
			}
		}
	}
}

// The bound is of the text alone, however many keys there are.
func TestAskOfEachLength(t *testing.T) {
	w, p := newWorld(t), pick(2)
	for n := range 61 {
		for _, text := range []string{full[:n], bright[:n], euros[:n], strings.Repeat("\x00", n)} {
			for _, many := range []int{1, 2, 12} {
				checkAsked(t, p.spots(w, many), w.row[p.below(4052)], text)
				checkAsked(t, repeated(far, many), far, text)
			}
		}
	}
}

func TestAskInAnotherOrder(t *testing.T) {
	w, p := newWorld(t), pick(3)
	for many := 2; many <= 12; many++ {
		keys := p.spots(w, many)
		for range many {
			keys = append(keys[1:many:many], keys[0])
			checkAsked(t, keys, base, "pay 5")
			// A key and r, each in the other's stead.
			checkAsked(t, append(slices.Clone(keys[1:]), base), keys[0], "pay 5")
		}
		slices.Reverse(keys)
		checkAsked(t, keys, base, "pay 5")
	}
}

func TestAskOfNone(t *testing.T) {
	for _, keys := range [][]api.Spot{nil, {}} {
		for _, r := range append(beside(), far, base) {
			for _, text := range append(ordinary(), overTexts()...) {
				failAsk(t, keys, r, text, api.ErrNone)
			}
		}
		// What is wrong with r is told ahead of it.
		for _, r := range wrongs() {
			for _, text := range []string{"", full, over} {
				failAsk(t, keys, r.s, text, r.want)
			}
		}
	}
}

// That there are too many is told ahead of what is wrong with one of them, with r, and with the text.
func TestAskTellsTooManyFirst(t *testing.T) {
	for _, many := range tooMany() {
		for _, a := range kinds() {
			for _, r := range kinds() {
				for _, text := range []string{"", full, over} {
					failAsk(t, repeated(a.s, many), r.s, text, api.ErrFull)
					failAsk(t, with(repeated(base, many), 0, a.s), r.s, text, api.ErrFull)
					failAsk(t, with(repeated(base, many), many-1, a.s), r.s, text, api.ErrFull)
				}
			}
		}
	}
}

func TestAskTellsOfAWrongKeyAtEachPlace(t *testing.T) {
	w, p := newWorld(t), pick(4)
	for _, a := range wrongs() {
		for many := 1; many <= 12; many++ {
			keys := p.spots(w, many)
			for place := range many {
				for _, r := range kinds() {
					failAsk(t, with(keys, place, a.s), r.s, "pay 5", a.want)
					failAsk(t, with(keys, place, a.s), r.s, over, a.want)
				}
			}
		}
		for _, b := range wrongs() {
			failAsk(t, []api.Spot{a.s, b.s}, base, "pay 5", a.want)
			failAsk(t, []api.Spot{base, a.s, flat, b.s, far}, b.s, over, a.want)
			failAsk(t, with(with(repeated(far, 12), 10, a.s), 11, b.s), b.s, full, a.want)
			failAsk(t, []api.Spot{a.s}, b.s, full, a.want)
		}
	}
}

func TestAskTellsOfAWrongRAheadOfTheText(t *testing.T) {
	for _, r := range wrongs() {
		for many := range 13 {
			for _, key := range append(beside(), far, base) {
				failAsk(t, repeated(key, many), r.s, "pay 5", r.want)
				failAsk(t, repeated(key, many), r.s, over, r.want)
			}
		}
	}
}

func TestAskOfTooLongATextTellsItLast(t *testing.T) {
	w, p := newWorld(t), pick(5)
	for _, text := range overTexts() {
		for many := 1; many <= 12; many++ {
			for _, r := range append(beside(), far, base) {
				failAsk(t, repeated(r, many), r, text, api.ErrFull)
				failAsk(t, p.spots(w, many), r, text, api.ErrFull)
			}
		}
	}
}

// Each kind of key, of r and of text with each other one.
func TestAskTellsOfTheFirst(t *testing.T) {
	check := func(keys []wrong, r wrong, text string) {
		t.Helper()
		want := askFault(keys, r, text)
		if want != api.OK {
			failAsk(t, spotsOf(keys), r.s, text, want)
			return
		}
		checkAsked(t, spotsOf(keys), r.s, text)
	}
	for _, r := range kinds() {
		for _, text := range []string{"", "pay 5", full, over} {
			check(nil, r, text)
			for _, a := range kinds() {
				check([]wrong{a}, r, text)
				check(repeated(a, 12), r, text)
				check(repeated(a, 13), r, text)
				for _, b := range kinds() {
					check([]wrong{a, b}, r, text)
					for _, c := range kinds() {
						check([]wrong{a, b, c}, r, text)
					}
				}
			}
		}
	}
}

// byHand is a seal, who made it of what, and what it is.
type byHand struct {
	keys     []api.Spot
	at, x, k int
	s        []int
	text     string
	want     api.Ringed
}

func sealsByHand(w world) []byHand {
	twelve := []int{1, 2, 3, 4, 5, 6, 7, 8, 9, 10, 11, 12}
	two, three := []api.Spot{mine, yours}, []api.Spot{mine, yours, {X: 3647, Y: 81}}
	return []byHand{
		{[]api.Spot{mine}, 0, 29, 300, []int{0}, "pay 5", api.Ringed{C: 239, S: []int{460}}},
		{[]api.Spot{base}, 0, 1, 1, []int{5}, "", api.Ringed{C: 796, S: []int{218}}},
		{[]api.Spot{minus}, 0, 1012, 1012, []int{1012}, full, api.Ringed{C: 517, S: []int{516}}},
		{two, 0, 29, 300, []int{0, 500}, "pay 5", api.Ringed{C: 557, S: []int{355, 500}}},
		{two, 1, 77, 300, []int{500, 0}, "pay 5", api.Ringed{C: 445, S: []int{500, 2}}},
		{[]api.Spot{yours, mine}, 0, 77, 300, []int{0, 500}, "pay 5", api.Ringed{C: 192, S: []int{711, 500}}},
		{three, 0, 29, 5, []int{0, 0, 1012}, "", api.Ringed{C: 261, S: []int{540, 0, 1012}}},
		{three, 1, 77, 5, []int{0, 0, 1012}, "", api.Ringed{C: 875, S: []int{0, 23, 1012}}},
		{three, 2, 500, 5, []int{0, 1012, 0}, "", api.Ringed{C: 164, S: []int{0, 1012, 296}}},
		// One key several times.
		{repeated(mine, 3), 1, 29, 8, []int{1, 2, 3}, "a", api.Ringed{C: 444, S: []int{1, 33, 3}}},
		// The others may be Far, or may not count.
		{[]api.Spot{far, mine, flat, four, twice, whole}, 1, 29, 300, []int{1, 2, 3, 4, 5, 6}, "pay 6", api.Ringed{C: 1004, S: []int{1, 642, 3, 4, 5, 6}}},
		// As many as may be.
		{w.keys(twelve), 11, 12, 1012, []int{0, 1, 2, 3, 4, 5, 6, 7, 8, 9, 10, 11}, bright, api.Ringed{C: 59, S: []int{0, 1, 2, 3, 4, 5, 6, 7, 8, 9, 10, 459}}},
		{w.keys(twelve), 6, 7, 1, []int{1012, 1011, 1010, 1009, 1008, 1007, 1006, 1005, 1004, 1003, 1002, 1001}, euros, api.Ringed{C: 915, S: []int{1012, 1011, 1010, 1009, 1008, 1007, 521, 1005, 1004, 1003, 1002, 1001}}},
		// What is answered is 0, and Q - 1.
		{two, 0, 29, 281, []int{0, 0}, "pay 5", api.Ringed{C: 359, S: []int{0, 0}}},
		{two, 0, 29, 646, []int{0, 1}, "pay 5", api.Ringed{C: 686, S: []int{1012, 1}}},
		// The number ahead of the first key is 0, so that S there is k.
		{two, 0, 29, 395, []int{0, 1}, "pay 5", api.Ringed{C: 0, S: []int{395, 1}}},
		// It is Q - 1.
		{two, 0, 29, 323, []int{0, 0}, "a", api.Ringed{C: 1012, S: []int{352, 0}}},
		// The number behind the place is 0.
		{two, 0, 29, 73, []int{0, 500}, "pay 5", api.Ringed{C: 816, S: []int{721, 500}}},
	}
}

func TestSignByHand(t *testing.T) {
	for _, c := range sealsByHand(newWorld(t)) {
		// What comes of the same is the same each time.
		for range 2 {
			checkSign(t, c.keys, c.at, c.x, c.k, c.s, c.text, c.want)
		}
		checkVerify(t, c.keys, c.text, c.want, true)
	}
}

// One of them sealed it, whoever: whoever of the ring seals, it is right.
func TestWhoeverSealsItIsRight(t *testing.T) {
	w, p := newWorld(t), pick(6)
	for many := 1; many <= 12; many++ {
		for _, text := range []string{"", "pay 5", full, euros} {
			xs := p.secrets(many)
			keys := w.keys(xs)
			for at, x := range xs {
				k, s := p.secret(), p.answers(many)
				z := mustSign(t, keys, at, x, k, s, text)
				checkVerify(t, keys, text, z, true)
				w.checkSigned(t, keys, at, x, k, s, text)
			}
		}
	}
}

// ringOf so many, and a seal by one of them.
func (w world) ringOf(t *testing.T, p *pick, many int, text string) (xs []int, keys []api.Spot, z api.Ringed) {
	t.Helper()
	xs = p.secrets(many)
	keys = w.keys(xs)
	at := p.below(many)
	return xs, keys, mustSign(t, keys, at, xs[at], p.secret(), p.answers(many), text)
}

// Of a seal no one can tell who made it: each one of the ring could have made just this one, with some k.
func TestEachOneCouldHaveSealedIt(t *testing.T) {
	w, p := newWorld(t), pick(7)
	for many := 1; many <= 12; many++ {
		for range 10 {
			xs, keys, z := w.ringOf(t, &p, many, "pay 5")
			ahead := w.numbers(keys, "pay 5", z)
			for at, x := range xs {
				if k := (z.S[at] + ahead[at]*x) % 1013; k != 0 {
					checkSign(t, keys, at, x, k, z.S, "pay 5", z)
				}
			}
		}
	}
}

func TestSignOfEachSecret(t *testing.T) {
	w, p := newWorld(t), pick(8)
	for n := 1; n <= 1012; n++ {
		other := w.key(p.secret())
		w.checkSigned(t, []api.Spot{w.key(n)}, 0, n, p.secret(), []int{0}, "pay 5")
		w.checkSigned(t, []api.Spot{mine}, 0, 29, n, []int{0}, "pay 5")
		w.checkSigned(t, []api.Spot{w.key(n), other}, 0, n, p.secret(), p.answers(2), "pay 5")
		w.checkSigned(t, []api.Spot{other, mine}, 1, 29, n, p.answers(2), "pay 5")
		// And each number as an answer of another one.
		w.checkSigned(t, []api.Spot{mine, other, yours}, 0, 29, 300, []int{0, n, 1012 - n}, "pay 5")
	}
}

func TestSignAtTheEdges(t *testing.T) {
	w, p := newWorld(t), pick(9)
	for _, many := range []int{1, 2, 3, 12} {
		for at := range many {
			for _, x := range edges() {
				for _, k := range edges() {
					keys := with(w.keys(p.secrets(many)), at, w.key(x))
					checkSign(t, keys, at, x, k, repeated(0, many), full, w.signed(keys, at, x, k, repeated(0, many), full))
					s := repeated(1012, many)
					checkSign(t, keys, at, x, k, s, "", w.signed(keys, at, x, k, s, ""))
				}
			}
		}
	}
}

func TestSignOfEachLength(t *testing.T) {
	w, p := newWorld(t), pick(10)
	for n := range 61 {
		for _, text := range []string{full[:n], bright[:n], euros[:n], strings.Repeat("\x00", n)} {
			for _, many := range []int{1, 2, 5} {
				xs := p.secrets(many)
				at := p.below(many)
				w.checkSigned(t, w.keys(xs), at, xs[at], p.secret(), p.answers(many), text)
			}
		}
	}
}

// The others may be anything of the curve.
func TestSignWithOthersOfEachKind(t *testing.T) {
	w, p := newWorld(t), pick(11)
	for many := 2; many <= 12; many++ {
		for at := range many {
			for _, s := range append(beside(), far, base, mine) {
				w.checkSigned(t, with(repeated(s, many), at, mine), at, 29, 300, p.answers(many), "pay 5")
			}
			x := p.secret()
			w.checkSigned(t, with(p.spots(w, many), at, w.key(x)), at, x, p.secret(), p.answers(many), "pay 5")
		}
	}
	for k, s := range w.row {
		w.checkSigned(t, []api.Spot{s, mine}, 1, 29, k%1012+1, []int{k % 1013, 0}, "pay 5")
	}
}

// What s says at the place does not matter: it may be anything at all.
func TestSignWithAnythingAtThePlace(t *testing.T) {
	w, p := newWorld(t), pick(12)
	for many := 1; many <= 12; many++ {
		xs, s := p.secrets(many), p.answers(many)
		keys := w.keys(xs)
		for at, x := range xs {
			want := w.signed(keys, at, x, 300, with(s, at, 0), "pay 5")
			for _, n := range append(outside(), 0, 1, 1012, want.S[at]) {
				checkSign(t, keys, at, x, 300, with(s, at, n), "pay 5", want)
			}
		}
	}
}

func TestSignTellsOfNoKeys(t *testing.T) {
	for _, keys := range [][]api.Spot{nil, {}} {
		for _, s := range [][]int{nil, {}, {1}, {-1}, repeated(0, 13)} {
			for _, n := range []int{0, 1, -1, 29, 1012, 1013, math.MaxInt, math.MinInt} {
				for _, text := range []string{"", "pay 5", full, over} {
					failSign(t, keys, 0, 29, n, s, text, api.ErrNone)
					failSign(t, keys, n, n, 300, s, text, api.ErrNone)
				}
			}
		}
	}
}

func TestSignTellsTooManyFirst(t *testing.T) {
	for _, many := range tooMany() {
		for _, a := range append(kinds(), wrong{s: mine}) {
			for _, other := range []int{0, 1, 12, 13, many - 1, many, many + 1} {
				for _, text := range []string{"", over} {
					failSign(t, repeated(a.s, many), 0, 29, 300, repeated(0, other), text, api.ErrFull)
					failSign(t, repeated(a.s, many), -1, 0, 1013, repeated(-1, other), text, api.ErrFull)
				}
			}
		}
	}
}

func TestSignTellsOfAWrongKeyAtEachPlace(t *testing.T) {
	for _, a := range wrongs() {
		for _, many := range []int{1, 2, 3, 12} {
			for place := range many {
				keys := with(repeated(mine, many), place, a.s)
				for _, other := range []int{0, many - 1, many, many + 1} {
					failSign(t, keys, 0, 29, 300, repeated(0, other), "pay 5", a.want)
					failSign(t, keys, place, 29, 300, repeated(0, other), over, a.want)
					failSign(t, keys, many, 0, -1, repeated(1013, other), over, a.want)
				}
			}
		}
		for _, b := range wrongs() {
			failSign(t, []api.Spot{a.s, b.s, mine}, 2, 29, 300, []int{1, 2, 3}, "pay 5", a.want)
			failSign(t, []api.Spot{mine, a.s, b.s}, 0, 29, 300, []int{1, 2, 3}, over, a.want)
		}
	}
}

func TestSignOfTooLongAText(t *testing.T) {
	for _, text := range overTexts() {
		for many := 1; many <= 12; many++ {
			for _, other := range []int{0, many - 1, many, many + 1} {
				failSign(t, repeated(mine, many), many-1, 29, 300, repeated(0, other), text, api.ErrFull)
				failSign(t, repeated(mine, many), many, 30, 0, repeated(1013, other), text, api.ErrFull)
			}
		}
	}
}

// That s is too short, or too long, is told ahead of every number, and of a key that is another one.
func TestSignTellsNotAsManyAheadOfNumbers(t *testing.T) {
	for many := 1; many <= 12; many++ {
		for _, other := range append(tooMany(), 0, 1, 2, 3, 4, 5, 6, 7, 8, 9, 10, 11, 12) {
			if other == many {
				continue
			}
			for _, n := range []int{0, 1012, 1013, -1, math.MinInt} {
				s := repeated(n, other)
				failSign(t, repeated(mine, many), 0, 29, 300, s, full, api.ErrShape)
				failSign(t, repeated(mine, many), many-1, 30, 300, s, "", api.ErrShape)
				failSign(t, repeated(mine, many), many, 29, 300, s, "", api.ErrShape)
				failSign(t, repeated(mine, many), other, 0, 1013, s, "", api.ErrShape)
				failSign(t, repeated(far, many), -1, 1013, 0, s, "", api.ErrShape)
			}
		}
	}
}

func TestSignTellsOfNoPlace(t *testing.T) {
	for many := 1; many <= 12; many++ {
		for _, at := range noPlaces(many) {
			if at >= 0 && at < many {
				continue
			}
			for _, x := range []int{29, 30, 0, 1013} {
				failSign(t, repeated(mine, many), at, x, 300, repeated(0, many), "pay 5", api.ErrRange)
				failSign(t, repeated(mine, many), at, x, 0, repeated(-1, many), "pay 5", api.ErrRange)
			}
		}
	}
}

// Numbers that are as good modulo Q are out of range all the same; and each of them is told ahead of a key that is another one.
func TestSignTellsOfWhatIsNoSecret(t *testing.T) {
	w, p := newWorld(t), pick(13)
	for _, n := range append(noSecrets(), 29+1013, 29-1013, 29+4052, 29-4052, 29+1013<<40) {
		for _, many := range []int{1, 2, 3, 12} {
			for at := range many {
				for _, key := range []api.Spot{mine, yours, far, whole} {
					keys, s := with(w.keys(p.secrets(many)), at, key), p.answers(many)
					failSign(t, keys, at, n, 300, s, "pay 5", api.ErrRange)
					failSign(t, keys, at, 29, n, s, "pay 5", api.ErrRange)
					failSign(t, keys, at, n, n, s, "pay 5", api.ErrRange)
				}
			}
		}
	}
}

// Each place but that of who seals: 0 and Q - 1 may be, what is beside them may not.
func TestSignTellsOfAWrongAnswerAtEachPlace(t *testing.T) {
	w, p := newWorld(t), pick(14)
	for many := 2; many <= 12; many++ {
		xs, s := p.secrets(many), p.answers(many)
		keys := w.keys(xs)
		at := p.below(many)
		for place := range many {
			if place == at {
				continue
			}
			for _, n := range outside() {
				bad := with(s, place, n)
				failSign(t, keys, at, xs[at], 300, bad, "pay 5", api.ErrRange)
				failSign(t, keys, at, xs[at], 300, with(bad, at, n), "pay 5", api.ErrRange)
				// Told ahead of a key that is another one.
				failSign(t, keys, at, xs[at]%1012+1, 300, bad, "pay 5", api.ErrRange)
			}
			for _, n := range []int{0, 1, 1011, 1012} {
				w.checkSigned(t, keys, at, xs[at], 300, with(s, place, n), "pay 5")
			}
		}
	}
}

// No other number than that of the key there does, also not that of another one of the ring.
func TestSignByAnotherNumber(t *testing.T) {
	w, p := newWorld(t), pick(15)
	for x := 1; x <= 1012; x++ {
		if x == 29 {
			continue
		}
		failSign(t, []api.Spot{mine}, 0, x, 300, []int{0}, "pay 5", api.ErrWrong)
		failSign(t, []api.Spot{mine, w.key(x)}, 0, x, 300, []int{0, 0}, "pay 5", api.ErrWrong)
		failSign(t, []api.Spot{w.key(x), mine}, 1, x, 300, []int{0, -1}, "pay 5", api.ErrWrong)
		failSign(t, []api.Spot{w.key(x), mine}, 0, 29, x, []int{0, 0}, "pay 5", api.ErrWrong)
	}
	xs := []int{5, 29, 77, 300, 500, 1012, 1, 2, 3, 4, 6, 7}
	for at := range xs {
		for place, x := range xs {
			if place != at {
				failSign(t, w.keys(xs), at, x, 300, p.answers(12), "pay 5", api.ErrWrong)
			}
		}
	}
	// Of a key that does not count, or is Far, there is no such number, and that of the Neg is another one.
	for x := 1; x <= 1012; x++ {
		for _, key := range append(beside(), far) {
			failSign(t, []api.Spot{key}, 0, x, 300, []int{0}, "pay 5", api.ErrWrong)
		}
	}
	failSign(t, []api.Spot{minus}, 0, 1, 300, []int{0}, "pay 5", api.ErrWrong)
	failSign(t, []api.Spot{base}, 0, 1012, 300, []int{0}, "pay 5", api.ErrWrong)
}

// Each thing that may be wrong with each other one.
func TestSignTellsOfTheFirst(t *testing.T) {
	w := newWorld(t)
	check := func(keys []wrong, at, x, k int, s []int, text string) {
		t.Helper()
		spots, want := spotsOf(keys), w.signFault(keys, at, x, k, s, text)
		if want != api.OK {
			failSign(t, spots, at, x, k, s, text, want)
			return
		}
		w.checkSigned(t, spots, at, x, k, s, text)
	}
	right := wrong{s: mine}
	rings := [][]wrong{
		nil, {right}, {right, right}, {{s: yours}, right}, {right, {s: far}}, {{s: whole}, right},
		{{wide, api.ErrRange}, right}, {right, {off, api.ErrShape}}, {{off, api.ErrShape}, {wide, api.ErrRange}},
		repeated(right, 13), repeated(wrong{off, api.ErrShape}, 13),
	}
	lists := [][]int{nil, {5}, {-1}, {0, 1012}, {1012, 0}, {0, 1013}, {-1, 0}, {math.MaxInt, math.MinInt}, {1, 2, 3}, {-1, 2, 1013}, repeated(1, 13)}
	for _, keys := range rings {
		for _, s := range lists {
			for _, at := range []int{0, 1, 2, -1} {
				for _, x := range []int{29, 30, 0, 1013} {
					for _, k := range []int{1, 1012, 0, 1013, -1} {
						for _, text := range []string{"pay 5", full, over} {
							check(keys, at, x, k, s, text)
						}
					}
				}
			}
		}
	}
}

func TestVerifyByHand(t *testing.T) {
	cases := []struct {
		keys []api.Spot
		z    api.Ringed
	}{
		// Where no key has a number there is no Sign, but Verify tells of them as of any others.
		{[]api.Spot{far}, api.Ringed{C: 998, S: []int{400}}},
		{[]api.Spot{flat}, api.Ringed{C: 88, S: []int{400}}},
		{[]api.Spot{four}, api.Ringed{C: 758, S: []int{400}}},
		{[]api.Spot{twice}, api.Ringed{C: 160, S: []int{402}}},
		{[]api.Spot{whole}, api.Ringed{C: 469, S: []int{400}}},
		{[]api.Spot{far, far}, api.Ringed{C: 588, S: []int{400, 407}}},
		{[]api.Spot{flat, base}, api.Ringed{C: 937, S: []int{400, 407}}},
		{[]api.Spot{four, twice, whole}, api.Ringed{C: 345, S: []int{400, 407, 414}}},
	}
	for _, c := range cases {
		checkVerify(t, c.keys, "pay 5", c.z, true)
		checkVerify(t, c.keys, "pay 5", api.Ringed{C: (c.z.C + 1) % 1013, S: c.z.S}, false)
		last := len(c.z.S) - 1
		checkVerify(t, c.keys, "pay 5", api.Ringed{C: c.z.C, S: with(c.z.S, last, c.z.S[last]+1)}, false)
		checkVerify(t, c.keys, "pay 6", c.z, false)
	}
}

// Of all numbers, C and each S but the right ones do by luck alone: the places tell just which.
func TestVerifyWithEachOtherNumber(t *testing.T) {
	w, p := newWorld(t), pick(16)
	for many := 1; many <= 5; many++ {
		_, keys, z := w.ringOf(t, &p, many, "pay 5")
		lucky := 0
		check := func(other api.Ringed) {
			t.Helper()
			w.checkVerified(t, keys, "pay 5", other)
			if w.right(keys, "pay 5", other) {
				lucky++
			}
		}
		for n := range 1013 {
			check(api.Ringed{C: n, S: z.S})
			for place := range many {
				check(api.Ringed{C: z.C, S: with(z.S, place, n)})
			}
		}
		// The seal itself comes up once for C, and once a place. Each step on the way may meet the right number by luck.
		if lucky < many+1 || lucky > 20*(many+1) {
			t.Errorf("%d numbers do, of %d keys and %v", lucky, many, z)
		}
	}
}

func TestVerifyWithAnotherNumberByHand(t *testing.T) {
	keys, z := []api.Spot{mine, yours, {X: 3647, Y: 81}}, api.Ringed{C: 875, S: []int{0, 23, 1012}}
	checkVerify(t, keys, "", z, true)
	for _, d := range []int{1, 2, 3, 500, 1011, 1012} {
		checkVerify(t, keys, "", api.Ringed{C: (z.C + d) % 1013, S: z.S}, false)
		for place, s := range z.S {
			checkVerify(t, keys, "", api.Ringed{C: z.C, S: with(z.S, place, (s+d)%1013)}, false)
		}
	}
	for _, s := range [][]int{{23, 0, 1012}, {0, 1012, 23}, {1012, 23, 0}, {23, 1012, 0}, {1012, 0, 23}, {0, 0, 0}, {1012, 1012, 1012}} {
		checkVerify(t, keys, "", api.Ringed{C: z.C, S: s}, false)
	}
}

func TestVerifyWithAnotherText(t *testing.T) {
	keys, z := []api.Spot{mine, yours}, api.Ringed{C: 557, S: []int{355, 500}}
	checkVerify(t, keys, "pay 5", z, true)
	for _, text := range []string{"", "a", "pay 6", "pay 5 ", " pay 5", "pay", "Pay 5", "pay 5\x00", full, euros, bright} {
		checkVerify(t, keys, text, z, false)
	}
	w, p := newWorld(t), pick(17)
	for many := 1; many <= 12; many++ {
		for _, text := range ordinary() {
			_, keys, z := w.ringOf(t, &p, many, text)
			for _, other := range ordinary() {
				w.checkVerified(t, keys, other, z)
			}
		}
	}
}

func TestVerifyWithOtherKeys(t *testing.T) {
	keys, z := []api.Spot{mine, yours, {X: 3647, Y: 81}}, api.Ringed{C: 875, S: []int{0, 23, 1012}}
	for place := range keys {
		for _, other := range append(beside(), far, base, mine, yours) {
			if other != keys[place] {
				checkVerify(t, with(keys, place, other), "", z, false)
			}
		}
	}
	for _, l := range [][3]int{{0, 2, 1}, {1, 0, 2}, {1, 2, 0}, {2, 0, 1}, {2, 1, 0}} {
		checkVerify(t, []api.Spot{keys[l[0]], keys[l[1]], keys[l[2]]}, "", z, false)
		// With the answers in the same order it is another one as well: the challenges hang on the order of the keys.
		s := []int{z.S[l[0]], z.S[l[1]], z.S[l[2]]}
		checkVerify(t, []api.Spot{keys[l[0]], keys[l[1]], keys[l[2]]}, "", api.Ringed{C: z.C, S: s}, false)
	}
	w := newWorld(t)
	for _, s := range w.row {
		for place := range keys {
			w.checkVerified(t, with(keys, place, s), "", z)
		}
	}
}

func TestVerifyInAnotherOrder(t *testing.T) {
	w, p := newWorld(t), pick(18)
	for many := 2; many <= 12; many++ {
		_, keys, z := w.ringOf(t, &p, many, "pay 5")
		for range many {
			keys = append(keys[1:many:many], keys[0])
			w.checkVerified(t, keys, "pay 5", z)
		}
		slices.Reverse(keys)
		w.checkVerified(t, keys, "pay 5", z)
	}
}

// found is a right seal of spots of any kind, if there is one with these answers.
func (w world) found(keys []api.Spot, s []int) (api.Ringed, bool) {
	for n := range 1013 {
		if z := (api.Ringed{C: n, S: s}); w.right(keys, "pay 5", z) {
			return z, true
		}
	}
	return api.Ringed{}, false
}

// Of spots that do not count some seals are right as well: the places tell just which.
func TestVerifyOfRightSealsOfEveryKind(t *testing.T) {
	w, p := newWorld(t), pick(19)
	many := 0
	for range 300 {
		keys := p.spots(w, 1+p.below(12))
		z, ok := w.found(keys, p.answers(len(keys)))
		if !ok {
			continue
		}
		many++
		checkVerify(t, keys, "pay 5", z, true)
		w.checkVerified(t, keys, "pay 5", api.Ringed{C: (z.C + 1) % 1013, S: z.S})
	}
	if many < 100 {
		t.Errorf("only %d seals were found", many)
	}
}

func TestVerifyAtTheEdges(t *testing.T) {
	w, p := newWorld(t), pick(20)
	for many := 1; many <= 12; many++ {
		_, keys, z := w.ringOf(t, &p, many, full)
		for _, n := range []int{0, 1, 1011, 1012} {
			w.checkVerified(t, keys, full, api.Ringed{C: n, S: z.S})
			w.checkVerified(t, keys, full, api.Ringed{C: n, S: repeated(n, many)})
			for place := range many {
				w.checkVerified(t, keys, full, api.Ringed{C: z.C, S: with(z.S, place, n)})
			}
			for _, s := range append(beside(), far, base) {
				w.checkVerified(t, repeated(s, many), full, api.Ringed{C: n, S: repeated(1012-n, many)})
			}
		}
	}
}

// A number that is as good modulo Q, or modulo Whole, is out of range all the same.
func TestVerifyTellsOfANumberThatMayNotBe(t *testing.T) {
	w, p := newWorld(t), pick(21)
	for many := 1; many <= 12; many++ {
		_, keys, z := w.ringOf(t, &p, many, "pay 5")
		for _, d := range []int{1013, -1013, 4052, -4052, 1013 << 40} {
			failVerify(t, keys, "pay 5", api.Ringed{C: z.C + d, S: z.S}, api.ErrRange)
			for place, s := range z.S {
				failVerify(t, keys, "pay 5", api.Ringed{C: z.C, S: with(z.S, place, s+d)}, api.ErrRange)
			}
		}
		for _, n := range outside() {
			failVerify(t, keys, "pay 5", api.Ringed{C: n, S: z.S}, api.ErrRange)
			failVerify(t, keys, "pay 5", api.Ringed{C: n, S: repeated(n, many)}, api.ErrRange)
			for place := range many {
				failVerify(t, keys, "pay 5", api.Ringed{C: z.C, S: with(z.S, place, n)}, api.ErrRange)
				failVerify(t, repeated(far, many), "", api.Ringed{S: with(repeated(0, many), place, n)}, api.ErrRange)
			}
		}
	}
}

func TestVerifyTellsNotAsManyAheadOfNumbers(t *testing.T) {
	w, p := newWorld(t), pick(22)
	for many := 1; many <= 12; many++ {
		_, keys, z := w.ringOf(t, &p, many, "pay 5")
		failVerify(t, keys, "pay 5", api.Ringed{C: z.C}, api.ErrShape)
		failVerify(t, keys, "pay 5", api.Ringed{C: z.C, S: []int{}}, api.ErrShape)
		failVerify(t, keys, "pay 5", api.Ringed{C: z.C, S: z.S[:many-1]}, api.ErrShape)
		for _, n := range []int{0, 1012, 1013, -1} {
			failVerify(t, keys, "pay 5", api.Ringed{C: z.C, S: append(slices.Clone(z.S), n)}, api.ErrShape)
		}
		for _, other := range append(tooMany(), 0, 1, 2, 3, 4, 5, 6, 7, 8, 9, 10, 11, 12) {
			if other == many {
				continue
			}
			for _, c := range []int{0, 1012, 1013, -1, math.MinInt} {
				for _, n := range []int{0, 1012, 1013, -1, math.MaxInt} {
					failVerify(t, keys, full, api.Ringed{C: c, S: repeated(n, other)}, api.ErrShape)
				}
			}
		}
	}
}

func TestVerifyTellsOfKeysAndTheTextFirst(t *testing.T) {
	for _, other := range []int{0, 1, 2, 12, 13} {
		for _, z := range []api.Ringed{{S: repeated(0, other)}, {C: 1013, S: repeated(1, other)}, {C: -1, S: repeated(-1, other)}} {
			for _, text := range []string{"", full, over} {
				failVerify(t, nil, text, z, api.ErrNone)
				failVerify(t, []api.Spot{}, text, z, api.ErrNone)
				for _, many := range tooMany() {
					failVerify(t, repeated(base, many), text, z, api.ErrFull)
					failVerify(t, repeated(off, many), text, z, api.ErrFull)
				}
				for _, a := range wrongs() {
					failVerify(t, []api.Spot{a.s}, text, z, a.want)
					failVerify(t, []api.Spot{base, a.s}, text, z, a.want)
					failVerify(t, []api.Spot{a.s, off, wide}, text, z, a.want)
					failVerify(t, with(repeated(mine, 12), 11, a.s), text, z, a.want)
				}
			}
			for _, text := range overTexts() {
				for many := 1; many <= 12; many++ {
					failVerify(t, repeated(mine, many), text, z, api.ErrFull)
				}
			}
		}
	}
}

// Each thing that may be wrong with each other one.
func TestVerifyTellsOfTheFirst(t *testing.T) {
	w := newWorld(t)
	check := func(keys []wrong, text string, z api.Ringed) {
		t.Helper()
		want := verifyFault(keys, text, z)
		if want != api.OK {
			failVerify(t, spotsOf(keys), text, z, want)
			return
		}
		w.checkVerified(t, spotsOf(keys), text, z)
	}
	numbers := []int{0, 1, 1012, 1013, -1, math.MaxInt, math.MinInt}
	for _, text := range []string{"", full, over} {
		for _, c := range numbers {
			for _, m := range numbers {
				for _, n := range numbers {
					for _, s := range [][]int{nil, {m}, {m, n}, {m, n, m}, append(repeated(m, 12), n)} {
						z := api.Ringed{C: c, S: s}
						check(nil, text, z)
						for _, a := range kinds() {
							check([]wrong{a}, text, z)
							check([]wrong{a, {s: base}}, text, z)
							check([]wrong{{s: far}, a}, text, z)
							check(repeated(a, 13), text, z)
						}
					}
				}
			}
		}
	}
}

// Lists are read up to their length, and nothing is written into them, nor behind them.
func TestListsAreLeftAlone(t *testing.T) {
	w := newWorld(t)
	keys := append(repeated(mine, 11), yours, wide, off)
	s := append(repeated(1012, 12), -1, 1013)
	keptKeys, keptS := slices.Clone(keys), slices.Clone(s)
	for many := range 15 {
		Ask(keys[:many], base, "pay 5")
		Ask(keys[many:], base, over)
		for other := range 15 {
			for _, at := range []int{0, many - 1, many} {
				Sign(keys[:many], at, 29, 300, s[:other], "pay 5")
				Sign(keys[many:], at, 29, 300, s[other:], full)
			}
			Verify(keys[:many], "pay 5", api.Ringed{C: 5, S: s[:other]})
			Verify(keys[many:], over, api.Ringed{C: -5, S: s[other:]})
		}
	}
	checkAsked(t, keys[:12], base, "pay 5")
	failAsk(t, keys[11:13], base, "pay 5", api.ErrRange)
	w.checkSigned(t, keys[:12], 11, 77, 300, s[:12], "pay 5")
	w.checkSigned(t, keys[:3], 1, 29, 300, s[9:12], "pay 5")
	w.checkVerified(t, keys[:12], "pay 5", api.Ringed{C: 5, S: s[:12]})
	if !slices.Equal(keys, keptKeys) || !slices.Equal(s, keptS) {
		t.Errorf("lists are %v and %v, were %v and %v", keys, s, keptKeys, keptS)
	}
}

func TestAnswersAreFresh(t *testing.T) {
	keys, s, want := []api.Spot{mine, yours}, []int{7, 500, 9}[:2], api.Ringed{C: 557, S: []int{355, 500}}
	first := mustSign(t, keys, 0, 29, 300, s, "pay 5")
	second := mustSign(t, keys, 0, 29, 300, s, "pay 5")
	first.S[0], first.S[1] = -1, -1
	_ = append(first.S, -2)
	if !slices.Equal(second.S, want.S) {
		t.Errorf("two answers share memory: %v, want %v", second, want)
	}
	if !slices.Equal(s[:3], []int{7, 500, 9}) {
		t.Errorf("an answer shares memory with the list: %v", s[:3])
	}
	// Nothing of a list is kept: with others in it the answer is another one.
	s[1] = 501
	if !slices.Equal(second.S, want.S) {
		t.Errorf("an answer hangs on the list: %v, want %v", second, want)
	}
	checkSign(t, keys, 0, 29, 300, []int{0, 500}, "pay 5", want)
	keys[0], keys[1], s[1] = yours, mine, 500
	checkSign(t, keys, 0, 77, 300, s, "pay 5", api.Ringed{C: 192, S: []int{711, 500}})
	checkVerify(t, keys, "pay 5", want, false)
	checkAsk(t, []api.Spot{base, minus}, far, "pay 5", 913)
}
