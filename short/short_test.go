package short

import (
	"math"
	"slices"
	"strings"
	"testing"

	"pairstone/api"
	"pairstone/curve"
	"pairstone/plain"
)

var (
	far = api.Spot{Far: true}
	// flat has Y 0: twice it is Far, so that it does not count.
	flat = api.Spot{}
	base = api.Spot{X: 1189, Y: 3667}
	// out is out of range, and off is beside the curve.
	out = api.Spot{X: -1}
	off = api.Spot{Y: 1}
)

// The texts at the edge of what may be: letters of one byte, and of three.
var (
	full   = strings.Repeat("x", 60)
	over   = strings.Repeat("x", 61)
	euros  = strings.Repeat("\xe2\x82\xac", 20)
	bright = strings.Repeat("\xff", 60)
)

func ordinary() []string {
	return []string{"", "a", "pay 5", "pay 6", "\x00", "\x00\x00", "\xff", full[1:], full, euros, bright}
}

// overTexts are more bytes than may be, also where they are fewer letters, or so many that a number of one byte goes round.
func overTexts() []string {
	return []string{over, strings.Repeat("\xc3\xa9", 31), euros + "\x00", bright + "a", strings.Repeat("x", 120), strings.Repeat("x", 256), strings.Repeat("x", 256+60), strings.Repeat("\x00", 1<<20)}
}

// world has all spots in a row, each as so many times the first one of it: sums of spots are those of their places, modulo Whole.
type world struct {
	row []api.Spot
	at  map[api.Spot]int
}

func newWorld(t *testing.T) world {
	t.Helper()
	first := api.Spot{X: 107, Y: 3793}
	w := world{at: map[api.Spot]int{}}
	for s := far; len(w.row) < api.Whole; {
		w.at[s] = len(w.row)
		w.row = append(w.row, s)
		next, err := curve.Add(s, first)
		if err != nil {
			t.Fatalf("Add(%v, %v): %v", s, first, err)
		}
		s = next
	}
	if len(w.at) != api.Whole {
		t.Fatalf("%v comes by %d spots, want %d", first, len(w.at), api.Whole)
	}
	return w
}

// times is n times a spot, n from 0 on.
func (w world) times(s api.Spot, n int) api.Spot { return w.row[n*w.at[s]%api.Whole] }

// key of a secret.
func (w world) key(x int) api.Spot { return w.times(base, x) }

// counted has all that count: each fourth of the row.
func (w world) counted() (l []api.Spot) {
	for k := 0; k < api.Whole; k += 4 {
		l = append(l, w.row[k])
	}
	return l
}

// spot of a text, told without package hash.
func (w world) spot(text string) api.Spot {
	for k := range 256 {
		n := 5
		for _, b := range append([]byte(text), byte(k)) {
			n = (n*263 + int(b) + 1) % 1000003
		}
		if s, ok := w.lowest(n % 4051); ok && !w.times(s, 4).Far {
			return w.times(s, 4)
		}
	}
	return base
}

// lowest is the spot at x with the lesser Y, of those in the row.
func (w world) lowest(x int) (api.Spot, bool) {
	for y := range 2026 {
		s := api.Spot{X: x, Y: y}
		if _, ok := w.at[s]; ok {
			return s, true
		}
	}
	return api.Spot{}, false
}

func (w world) signed(x int, text string) api.Spot { return w.times(w.spot(text), x) }

// right tells by places alone, without pairs: as pairs are bilinear, that of two spots is told by the product of their places.
func (w world) right(keys []api.Spot, texts []string, sig api.Spot) bool {
	sum := w.at[sig] / 4 * (w.at[base] / 4)
	for k, key := range keys {
		sum -= w.at[w.spot(texts[k])] / 4 * (w.at[key] / 4)
	}
	return sum%1013 == 0
}

// wrong is a spot, and what is told of it.
type wrong struct {
	s    api.Spot
	want api.Errno
}

// wrongs has spots that are none: out of range at each place, Far and somewhere, beside the curve.
func wrongs() (l []wrong) {
	for _, n := range []int{-1, -api.P, api.P, api.P + 1, math.MaxInt, math.MinInt} {
		l = append(l,
			wrong{api.Spot{X: n}, api.ErrRange},
			wrong{api.Spot{Y: n}, api.ErrRange},
			wrong{api.Spot{X: n, Y: 3667}, api.ErrRange},
			wrong{api.Spot{X: 1189, Y: n}, api.ErrRange},
			wrong{api.Spot{X: n, Far: true}, api.ErrRange},
			wrong{api.Spot{Y: n, Far: true}, api.ErrRange},
		)
	}
	return append(l,
		wrong{api.Spot{X: 1189 + api.P, Y: 3667}, api.ErrRange},
		wrong{api.Spot{X: 1189, Y: 3667 - api.P}, api.ErrRange},
		wrong{api.Spot{X: 1, Far: true}, api.ErrRange},
		wrong{api.Spot{X: 1189, Y: 3667, Far: true}, api.ErrRange},
		wrong{api.Spot{X: 1189, Y: 3666}, api.ErrShape},
		wrong{api.Spot{X: 1189}, api.ErrShape},
		wrong{api.Spot{Y: 1}, api.ErrShape},
		wrong{api.Spot{X: api.P - 1, Y: api.P - 1}, api.ErrShape},
	)
}

// beside has spots of the curve that do not count, one of each order: 2, 4, twice Q and Whole.
func beside() []api.Spot {
	return []api.Spot{flat, {X: api.P - 1, Y: 90}, {X: 3180, Y: 1220}, {X: 107, Y: 3793}}
}

// unpaired has all that have no Pair: also those that are on the curve but do not count.
func unpaired() []wrong {
	l := wrongs()
	for _, s := range beside() {
		l = append(l, wrong{s, api.ErrShape})
	}
	return l
}

// outside are numbers that are no secret, some of which are one modulo Q.
func outside() []int {
	return []int{0, -1, -2, -1012, -1013, -1014, 1013, 1014, 1015, 2026, 4051, 4052, 4053, 1 << 16, 1 << 32, 1<<32 + 1, 1 << 62, math.MaxInt, math.MinInt, math.MinInt + 1}
}

// edges are numbers that are secrets: the least, the greatest, and some between.
func edges() []int { return []int{1, 2, 3, 29, 506, 507, 658, 1011, 1012} }

func repeated[T any](s T, many int) []T { return slices.Repeat([]T{s}, many) }

// with is a list of so many alike, but for one at a place.
func with[T any](s T, many, place int, other T) []T {
	l := repeated(s, many)
	l[place] = other
	return l
}

func checkSign(t *testing.T, x int, text string, want api.Spot) {
	t.Helper()
	if got, err := Sign(x, text); got != want || err != nil {
		t.Errorf("Sign(%d, %q) is %v, %v, want %v", x, text, got, err, want)
	}
}

// sealed is a secret, its key, a text, and the seal that comes of them.
type sealed struct {
	x    int
	key  api.Spot
	text string
	sig  api.Spot
}

func byHand() []sealed {
	return []sealed{
		{1, base, "", api.Spot{X: 2955, Y: 3893}},
		{2, api.Spot{X: 3695, Y: 2989}, "a", api.Spot{X: 2892, Y: 432}},
		{29, api.Spot{X: 1710, Y: 1841}, "pay 5", api.Spot{X: 228, Y: 1059}},
		{89, api.Spot{X: 1898, Y: 2894}, "pay 5", api.Spot{X: 2719, Y: 611}},
		{1012, api.Spot{X: 1189, Y: 384}, "pay 5", api.Spot{X: 812, Y: 3013}},
		{77, api.Spot{X: 1742, Y: 2049}, "pay 6", api.Spot{X: 2133, Y: 136}},
		{506, api.Spot{X: 1521, Y: 1602}, "\x00", api.Spot{X: 3473, Y: 3889}},
		{507, api.Spot{X: 1521, Y: 2449}, "\x00\x00", api.Spot{X: 2230, Y: 1654}},
		{1011, api.Spot{X: 3695, Y: 1062}, "\xff", api.Spot{X: 33, Y: 108}},
		{1012, api.Spot{X: 1189, Y: 384}, full, api.Spot{X: 2915, Y: 3105}},
		{29, api.Spot{X: 1710, Y: 1841}, full, api.Spot{X: 1068, Y: 1596}},
		{300, api.Spot{X: 607, Y: 1325}, euros, api.Spot{X: 228, Y: 2992}},
		{658, api.Spot{X: 1618, Y: 4042}, bright, api.Spot{X: 2524, Y: 2653}},
	}
}

func TestSignByHand(t *testing.T) {
	for _, c := range byHand() {
		// What comes of the same is the same each time.
		for range 2 {
			checkSign(t, c.x, c.text, c.sig)
		}
	}
}

func TestSignOfEachSecret(t *testing.T) {
	w := newWorld(t)
	for _, text := range ordinary() {
		s := w.spot(text)
		for x := 1; x < api.Q; x++ {
			checkSign(t, x, text, w.times(s, x))
		}
	}
}

func TestSignOfEachLength(t *testing.T) {
	w := newWorld(t)
	for n := range api.MaxText + 1 {
		for _, text := range []string{full[:n], bright[:n], euros[:n], strings.Repeat("\x00", n)} {
			s := w.spot(text)
			for _, x := range edges() {
				checkSign(t, x, text, w.times(s, x))
			}
		}
	}
}

func checkWrongSign(t *testing.T, x int, text string, want api.Errno) {
	t.Helper()
	if got, err := Sign(x, text); got != (api.Spot{}) || plain.Told(err) != want {
		t.Errorf("Sign(%d) of %d bytes is %v, %v, want %v", x, len(text), got, err, want)
	}
}

func TestSignTellsWhatIsWrong(t *testing.T) {
	for _, x := range outside() {
		// Told ahead of a text that is too much.
		for _, text := range append(ordinary(), overTexts()...) {
			checkWrongSign(t, x, text, api.ErrRange)
		}
	}
	for _, text := range overTexts() {
		for _, x := range edges() {
			checkWrongSign(t, x, text, api.ErrFull)
		}
	}
}

func checkVerify(t *testing.T, key api.Spot, text string, sig api.Spot, want bool) {
	t.Helper()
	if got, err := Verify(key, text, sig); got != want || err != nil {
		t.Errorf("Verify(%v, %q, %v) is %v, %v, want %v", key, text, sig, got, err, want)
	}
}

func TestVerifyByHand(t *testing.T) {
	for _, c := range byHand() {
		for range 2 {
			checkVerify(t, c.key, c.text, c.sig, true)
		}
		checkVerify(t, c.key, "another", c.sig, false)
	}
}

func TestVerifyOfWhatIsSealed(t *testing.T) {
	w := newWorld(t)
	for x := 1; x < api.Q; x++ {
		text := ordinary()[x%len(ordinary())]
		sig, err := Sign(x, text)
		if err != nil {
			t.Fatalf("Sign(%d, %q): %v", x, text, err)
		}
		checkVerify(t, w.key(x), text, sig, true)
	}
}

func TestVerifyOfEachLength(t *testing.T) {
	w := newWorld(t)
	for n := range api.MaxText + 1 {
		for _, text := range []string{full[:n], bright[:n], euros[:n]} {
			sig := w.signed(29, text)
			checkVerify(t, w.key(29), text, sig, true)
			checkVerify(t, w.key(30), text, sig, false)
		}
	}
}

// With another number it is not right: of all seals none but that of x, and of all keys none but that of x.
func TestVerifyOfAnotherNumber(t *testing.T) {
	w := newWorld(t)
	for _, x := range []int{1, 29, 1012} {
		for _, text := range []string{"", "pay 5", full} {
			key, sig := w.key(x), w.signed(x, text)
			for n := range api.Q {
				checkVerify(t, key, text, w.signed(n, text), n == x)
				checkVerify(t, w.key(n), text, sig, n == x)
			}
		}
	}
}

func TestVerifyOfAnotherText(t *testing.T) {
	w := newWorld(t)
	for _, x := range edges() {
		sig := w.signed(x, euros)
		for _, text := range append(ordinary(), euros[:59], euros[:57], euros[1:], euros[:59]+"\xad", "\x00"+euros[1:]) {
			checkVerify(t, w.key(x), text, sig, text == euros)
		}
	}
}

// Texts that have one spot have one seal: it is the spot that is sealed.
func TestVerifyOfAnotherTextWithTheSameSpot(t *testing.T) {
	w := newWorld(t)
	texts := map[api.Spot]string{}
	for n := range 300 {
		text := strings.Repeat("z", n%60) + string(rune('a'+n%26))
		s := w.spot(text)
		if other, ok := texts[s]; ok && other != text {
			checkVerify(t, w.key(29), other, w.signed(29, text), true)
			return
		}
		texts[s] = text
	}
	t.Error("no two texts have one spot")
}

func TestVerifyOfFar(t *testing.T) {
	w := newWorld(t)
	for _, text := range ordinary() {
		// Both pairs are 1, if both are Far; and 1 is no other.
		checkVerify(t, far, text, far, true)
		for _, x := range edges() {
			checkVerify(t, far, text, w.signed(x, text), false)
			checkVerify(t, w.key(x), text, far, false)
		}
	}
}

func TestVerifyIsToldByPlaces(t *testing.T) {
	w := newWorld(t)
	counted := w.counted()
	for _, text := range []string{"", "pay 5", full} {
		for k := 0; k < len(counted); k += 53 {
			for n := 0; n < len(counted); n += 47 {
				key, sig := counted[k], counted[n]
				checkVerify(t, key, text, sig, w.right([]api.Spot{key}, []string{text}, sig))
			}
		}
	}
}

func checkWrongVerify(t *testing.T, key api.Spot, text string, sig api.Spot, want api.Errno) {
	t.Helper()
	if got, err := Verify(key, text, sig); got || plain.Told(err) != want {
		t.Errorf("Verify(%v, %d bytes, %v) is %v, %v, want %v", key, len(text), sig, got, err, want)
	}
}

func TestVerifyOfWhatDoesNotCount(t *testing.T) {
	w := newWorld(t)
	key, sig := w.key(29), w.signed(29, "pay 5")
	for k, s := range w.row {
		if k%4 == 0 {
			continue
		}
		checkWrongVerify(t, key, "pay 5", s, api.ErrShape)
		checkWrongVerify(t, s, "pay 5", sig, api.ErrShape)
	}
}

func TestVerifyTellsWhatIsWrong(t *testing.T) {
	for _, a := range unpaired() {
		for _, text := range []string{"", "pay 5", full} {
			for _, right := range []api.Spot{far, base} {
				checkWrongVerify(t, right, text, a.s, a.want)
				checkWrongVerify(t, a.s, text, right, a.want)
			}
		}
		// The seal is told ahead of the key, also where it only does not count.
		for _, b := range unpaired() {
			checkWrongVerify(t, b.s, "pay 5", a.s, a.want)
		}
	}
}

func TestVerifyOfTooMuch(t *testing.T) {
	spots := append([]api.Spot{far, base, out, off}, beside()...)
	for _, text := range overTexts() {
		// Told ahead of whatever is wrong with the key, with the seal.
		for _, key := range spots {
			for _, sig := range spots {
				checkWrongVerify(t, key, text, sig, api.ErrFull)
			}
		}
	}
}

func checkJoin(t *testing.T, l []api.Spot, want api.Spot) {
	t.Helper()
	if got, err := Join(l); got != want || err != nil {
		t.Errorf("Join(%v) is %v, %v, want %v", l, got, err, want)
	}
}

func TestJoinByHand(t *testing.T) {
	checkJoin(t, nil, far)
	checkJoin(t, []api.Spot{}, far)
	checkJoin(t, []api.Spot{{X: 2811, Y: 2933}, {X: 5, Y: 777}}, api.Spot{X: 581, Y: 3227})
	checkJoin(t, []api.Spot{{X: 228, Y: 1059}, {X: 2133, Y: 136}}, api.Spot{X: 3765, Y: 1567})
	checkJoin(t, repeated(base, 12), api.Spot{X: 2087, Y: 1946})
	// Those that do not count add up as well.
	checkJoin(t, []api.Spot{flat, {X: 4050, Y: 90}}, api.Spot{X: 4050, Y: 3961})
	checkJoin(t, []api.Spot{{X: 107, Y: 3793}, {X: 3180, Y: 1220}, flat}, api.Spot{X: 3383, Y: 3568})
	checkJoin(t, repeated(api.Spot{X: 107, Y: 3793}, 12), api.Spot{X: 3980, Y: 3318})
	checkJoin(t, repeated(flat, 11), flat)
	checkJoin(t, repeated(flat, 12), far)
}

func TestJoinOfOneAndItsTurnedOne(t *testing.T) {
	w := newWorld(t)
	for k, s := range w.row {
		turned := w.row[(api.Whole-k)%api.Whole]
		checkJoin(t, []api.Spot{s}, s)
		checkJoin(t, []api.Spot{s, turned}, far)
		checkJoin(t, []api.Spot{far, s, base, turned}, base)
	}
}

// fromRow has so many spots, which are not alike, and the place of their sum.
func (w world) fromRow(many, seed int) (l []api.Spot, place int) {
	for k := range many {
		n := (seed*911 + k*k*37 + k*5) % api.Whole
		l, place = append(l, w.row[n]), place+n
	}
	return l, place % api.Whole
}

func TestJoinOfUpToMaxList(t *testing.T) {
	w := newWorld(t)
	for many := range api.MaxList + 1 {
		for seed := range 100 {
			l, place := w.fromRow(many, seed)
			checkJoin(t, l, w.row[place])
			slices.Reverse(l)
			checkJoin(t, l, w.row[place])
		}
	}
}

// Seals of one text add up to that of the secrets' sum, and are right by the keys' sum.
func TestJoinOfSealsOfOneText(t *testing.T) {
	w := newWorld(t)
	for many := range api.MaxList + 1 {
		for _, text := range []string{"", "pay 5", full} {
			var keys, sigs []api.Spot
			sum := 0
			for k := range many {
				x := 1 + (k*k*101+many*7)%1012
				sum, keys, sigs = sum+x, append(keys, w.key(x)), append(sigs, w.signed(x, text))
			}
			key, sig := w.key(sum%api.Q), w.signed(sum%api.Q, text)
			checkJoin(t, keys, key)
			checkJoin(t, sigs, sig)
			checkVerify(t, key, text, sig, true)
		}
	}
}

func checkWrongJoin(t *testing.T, l []api.Spot, want api.Errno) {
	t.Helper()
	if got, err := Join(l); got != (api.Spot{}) || plain.Told(err) != want {
		t.Errorf("Join(%v) is %v, %v, want %v", l, got, err, want)
	}
}

func TestJoinOfTooMany(t *testing.T) {
	// What is wrong with those in it is told behind how many there are.
	for _, s := range []api.Spot{far, base, flat, out, off} {
		for _, many := range []int{13, 14, 24, 255, 256, 268, 1 << 16} {
			checkWrongJoin(t, repeated(s, many), api.ErrFull)
		}
	}
}

func TestJoinTellsWhatIsWrongAtEachPlace(t *testing.T) {
	for _, a := range wrongs() {
		for many := 1; many <= api.MaxList; many++ {
			for k := range many {
				for _, s := range []api.Spot{far, base, flat} {
					checkWrongJoin(t, with(s, many, k, a.s), a.want)
				}
			}
		}
	}
}

func TestJoinTellsTheFirstFault(t *testing.T) {
	for _, a := range wrongs() {
		for _, b := range wrongs() {
			checkWrongJoin(t, []api.Spot{a.s, b.s}, a.want)
			checkWrongJoin(t, []api.Spot{base, a.s, base, b.s, base}, a.want)
			l := repeated(base, 12)
			l[0], l[11] = a.s, b.s
			checkWrongJoin(t, l, a.want)
		}
	}
}

// Lists are read up to their length, and nothing is written into them, nor behind them.
func TestJoinLeavesListsAlone(t *testing.T) {
	w := newWorld(t)
	l, place := w.fromRow(api.MaxList, 3)
	l = append(l, out, off)
	kept := slices.Clone(l)
	for range 2 {
		checkJoin(t, l[:12], w.row[place])
	}
	checkJoin(t, l[:0], far)
	checkWrongJoin(t, l[:13], api.ErrFull)
	checkWrongJoin(t, l[2:], api.ErrRange)
	if !slices.Equal(l, kept) {
		t.Errorf("the list is %v, want %v", l, kept)
	}
}

func checkAll(t *testing.T, keys []api.Spot, texts []string, sig api.Spot, want bool) {
	t.Helper()
	if got, err := All(keys, texts, sig); got != want || err != nil {
		t.Errorf("All(%v, %q, %v) is %v, %v, want %v", keys, texts, sig, got, err, want)
	}
}

func TestAllOfNone(t *testing.T) {
	w := newWorld(t)
	for _, keys := range [][]api.Spot{nil, {}} {
		for _, texts := range [][]string{nil, {}} {
			for _, sig := range w.counted() {
				checkAll(t, keys, texts, sig, sig == far)
			}
		}
	}
}

func TestAllOfOneByHand(t *testing.T) {
	for _, c := range byHand() {
		checkAll(t, []api.Spot{c.key}, []string{c.text}, c.sig, true)
		checkAll(t, []api.Spot{c.key}, []string{"another"}, c.sig, false)
		checkAll(t, []api.Spot{c.key}, []string{c.text}, far, false)
		checkAll(t, []api.Spot{far}, []string{c.text}, c.sig, false)
		checkAll(t, []api.Spot{far}, []string{c.text}, far, true)
	}
}

func TestAllOfOneAndAnotherNumber(t *testing.T) {
	w := newWorld(t)
	key, sig := w.key(29), w.signed(29, "pay 5")
	for n := range api.Q {
		checkAll(t, []api.Spot{key}, []string{"pay 5"}, w.signed(n, "pay 5"), n == 29)
		checkAll(t, []api.Spot{w.key(n)}, []string{"pay 5"}, sig, n == 29)
	}
}

func TestAllOfTwoByHand(t *testing.T) {
	key, other := api.Spot{X: 1710, Y: 1841}, api.Spot{X: 1742, Y: 2049}
	sig := api.Spot{X: 3765, Y: 1567}
	checkAll(t, []api.Spot{key, other}, []string{"pay 5", "pay 6"}, sig, true)
	checkAll(t, []api.Spot{other, key}, []string{"pay 6", "pay 5"}, sig, true)
	// Each key goes with the text at its place.
	checkAll(t, []api.Spot{other, key}, []string{"pay 5", "pay 6"}, sig, false)
	checkAll(t, []api.Spot{key, other}, []string{"pay 5", "pay 5"}, sig, false)
	checkAll(t, []api.Spot{key}, []string{"pay 5"}, sig, false)
	checkAll(t, []api.Spot{key, other, far}, []string{"pay 5", "pay 6", full}, sig, true)
	checkAll(t, []api.Spot{key, other, base}, []string{"pay 5", "pay 6", full}, sig, false)
}

// signers has so many keys and texts, and the seals of the one by the other's secret.
func signers(t *testing.T, w world, many, seed int) (keys []api.Spot, texts []string, sigs []api.Spot) {
	t.Helper()
	for k := range many {
		x, text := 1+(seed*31+k*k*7+k)%1012, ordinary()[(seed+k*3)%len(ordinary())]
		sig, err := Sign(x, text)
		if err != nil {
			t.Fatalf("Sign(%d, %q): %v", x, text, err)
		}
		keys, texts, sigs = append(keys, w.key(x)), append(texts, text), append(sigs, sig)
	}
	return keys, texts, sigs
}

func mustJoin(t *testing.T, l []api.Spot) api.Spot {
	t.Helper()
	s, err := Join(l)
	if err != nil {
		t.Fatalf("Join(%v): %v", l, err)
	}
	return s
}

// Seals add up: what is joined of right ones is right of all, and without one of them it is not.
func TestAllOfWhatIsJoined(t *testing.T) {
	w := newWorld(t)
	for many := range api.MaxList + 1 {
		for seed := range 12 {
			keys, texts, sigs := signers(t, w, many, seed)
			sig := mustJoin(t, sigs)
			checkAll(t, keys, texts, sig, true)
			for k := range many {
				less := mustJoin(t, slices.Delete(slices.Clone(sigs), k, k+1))
				checkAll(t, keys, texts, less, false)
			}
		}
	}
}

func TestAllOfAnotherAtEachPlace(t *testing.T) {
	w := newWorld(t)
	for many := 1; many <= api.MaxList; many++ {
		keys, texts, sigs := signers(t, w, many, many)
		sig := mustJoin(t, sigs)
		for k := range many {
			otherKeys, otherTexts := slices.Clone(keys), slices.Clone(texts)
			otherKeys[k] = w.row[(w.at[keys[k]]+4)%api.Whole]
			otherTexts[k] = "another"
			checkAll(t, otherKeys, texts, sig, false)
			checkAll(t, keys, otherTexts, sig, false)
			checkAll(t, otherKeys, otherTexts, sig, w.right(otherKeys, otherTexts, sig))
		}
		for _, other := range []api.Spot{far, base, w.row[(w.at[sig]+4)%api.Whole], w.row[(w.at[sig]+4000)%api.Whole]} {
			checkAll(t, keys, texts, other, other == sig)
		}
	}
}

// One text of all, one key of all, and one that is turned, so that nothing is left.
func TestAllOfThoseThatAreAlike(t *testing.T) {
	w := newWorld(t)
	for many := 1; many <= api.MaxList; many++ {
		for _, text := range []string{"", full} {
			keys, texts := repeated(w.key(29), many), repeated(text, many)
			checkAll(t, keys, texts, w.signed(29*many, text), true)
			checkAll(t, keys, texts, w.signed(29, text), many == 1)
		}
	}
	turned := []api.Spot{w.key(29), w.key(1013 - 29)}
	checkAll(t, turned, []string{"pay 5", "pay 5"}, far, true)
	checkAll(t, turned, []string{"pay 5", "pay 6"}, far, false)
	checkAll(t, repeated(far, 12), repeated(full, 12), far, true)
	checkAll(t, repeated(far, 12), repeated(full, 12), base, false)
}

func TestAllIsToldByPlaces(t *testing.T) {
	w := newWorld(t)
	counted := w.counted()
	for many := range api.MaxList + 1 {
		for seed := range 6 {
			keys, texts, _ := signers(t, w, many, seed*5)
			for n := seed; n < len(counted); n += 61 {
				checkAll(t, keys, texts, counted[n], w.right(keys, texts, counted[n]))
			}
		}
	}
}

// Of all seals one does, whatever the keys and the texts are.
func TestAllFindsTheSealThatDoes(t *testing.T) {
	w := newWorld(t)
	keys, texts, sigs := signers(t, w, 3, 4)
	want := mustJoin(t, sigs)
	for _, sig := range w.counted() {
		checkAll(t, keys, texts, sig, sig == want)
	}
}

func checkWrongAll(t *testing.T, keys []api.Spot, texts []string, sig api.Spot, want api.Errno) {
	t.Helper()
	if got, err := All(keys, texts, sig); got || plain.Told(err) != want {
		t.Errorf("All(%v, %d texts, %v) is %v, %v, want %v", keys, len(texts), sig, got, err, want)
	}
}

func TestAllOfHowMany(t *testing.T) {
	// How many there are is told ahead of whatever is wrong with them, and with the seal.
	for _, s := range []api.Spot{far, base, flat, out, off} {
		for _, text := range []string{"", "pay 5", over} {
			for k := range 2*api.MaxList + 2 {
				for n := range 2*api.MaxList + 2 {
					switch {
					case k > 12 || n > 12:
						checkWrongAll(t, repeated(s, k), repeated(text, n), s, api.ErrFull)
					case k != n:
						checkWrongAll(t, repeated(s, k), repeated(text, n), s, api.ErrShape)
					}
				}
			}
			for _, many := range []int{255, 256, 257, 268, 1 << 16} {
				checkWrongAll(t, repeated(s, many), repeated(text, many), s, api.ErrFull)
				checkWrongAll(t, repeated(s, many), repeated(text, 1), s, api.ErrFull)
				checkWrongAll(t, repeated(s, 1), repeated(text, many), s, api.ErrFull)
			}
		}
	}
}

func TestAllOfATextThatIsTooLong(t *testing.T) {
	spots := append([]api.Spot{far, base, out, off}, beside()...)
	for _, long := range overTexts() {
		for many := 1; many <= api.MaxList; many++ {
			for k := range many {
				texts := with("pay 5", many, k, long)
				// Told ahead of whatever is wrong with the seal, with a key.
				for _, s := range spots {
					checkWrongAll(t, repeated(base, many), texts, s, api.ErrFull)
					checkWrongAll(t, repeated(s, many), texts, base, api.ErrFull)
					checkWrongAll(t, repeated(s, many), texts, out, api.ErrFull)
				}
			}
		}
	}
}

func TestAllTellsWhatIsWrongWithTheSeal(t *testing.T) {
	for _, a := range unpaired() {
		checkWrongAll(t, nil, nil, a.s, a.want)
		for _, many := range []int{1, 2, 12} {
			texts := repeated(full, many)
			checkWrongAll(t, repeated(base, many), texts, a.s, a.want)
			// Told ahead of the keys, also where it only does not count.
			for _, b := range unpaired() {
				checkWrongAll(t, repeated(b.s, many), texts, a.s, a.want)
			}
		}
	}
}

func TestAllTellsWhatIsWrongWithAKeyAtEachPlace(t *testing.T) {
	for _, a := range unpaired() {
		for _, many := range []int{1, 2, 3, 11, 12} {
			for k := range many {
				keys := with(base, many, k, a.s)
				checkWrongAll(t, keys, repeated("pay 5", many), base, a.want)
				checkWrongAll(t, keys, repeated("", many), far, a.want)
			}
		}
	}
}

func TestAllTellsTheFirstKeyThatHasAFault(t *testing.T) {
	for _, a := range unpaired() {
		for _, b := range unpaired() {
			// A key that does not count is told ahead of what Check tells of a later one.
			checkWrongAll(t, []api.Spot{a.s, b.s}, []string{"pay 5", full}, base, a.want)
			checkWrongAll(t, []api.Spot{far, a.s, far, b.s}, repeated("", 4), far, a.want)
		}
	}
}

// Lists are read up to their length, and nothing is written into them, nor behind them.
func TestAllLeavesListsAlone(t *testing.T) {
	w := newWorld(t)
	keys, texts, sigs := signers(t, w, api.MaxList, 7)
	sig := mustJoin(t, sigs)
	keys, texts = append(keys, out, flat), append(texts, over, over)
	keptKeys, keptTexts := slices.Clone(keys), slices.Clone(texts)
	for range 2 {
		checkAll(t, keys[:12], texts[:12], sig, true)
	}
	checkAll(t, keys[:0], texts[:0], far, true)
	checkWrongAll(t, keys[:13], texts[:13], sig, api.ErrFull)
	checkWrongAll(t, keys[2:], texts[:12], sig, api.ErrRange)
	if !slices.Equal(keys, keptKeys) || !slices.Equal(texts, keptTexts) {
		t.Errorf("the lists are %v, %q, want %v, %q", keys, texts, keptKeys, keptTexts)
	}
}
