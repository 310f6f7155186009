package adapt

import (
	"math"
	"strings"
	"testing"

	"pairstone/api"
	"pairstone/curve"
	"pairstone/plain"
	"pairstone/seal"
)

var (
	far = api.Spot{Far: true}
	// flat has Y 0: twice it is Far, so that it does not count. Its numbers are those of what is Far.
	flat  = api.Spot{}
	base  = api.Spot{X: 1189, Y: 3667}
	minus = api.Spot{X: 1189, Y: 384}
	// four, twice and whole are on the curve but do not count: their orders are 4, twice Q and Whole.
	four  = api.Spot{X: 4050, Y: 90}
	twice = api.Spot{X: 3180, Y: 1220}
	whole = api.Spot{X: 107, Y: 3793}
	// wide has a number out of range, and off is beside the curve.
	wide = api.Spot{X: 4051}
	off  = api.Spot{X: 1189, Y: 3666}
	// mine, yours and third are 29, 77 and 300 times Base.
	mine  = api.Spot{X: 1710, Y: 1841}
	yours = api.Spot{X: 1742, Y: 2049}
	third = api.Spot{X: 607, Y: 1325}
)

// The texts at the edge of what may be: letters of one byte, and of three.
var (
	full   = strings.Repeat("x", 60)
	over   = strings.Repeat("x", 61)
	euros  = strings.Repeat("\xe2\x82\xac", 20)
	bright = strings.Repeat("\xff", 60)
)

func ordinary() []string {
	return []string{"", "a", "pay 5", "pay 6", "\x00", "\x00\x00", "\xff", full[1:], full, euros, bright}
}

// overTexts are more bytes than may be, also where they are fewer letters, or so many that a number of one byte goes round.
func overTexts() []string {
	return []string{over, strings.Repeat("\xc3\xa9", 31), euros + "\x00", bright + "a", strings.Repeat("x", 120), strings.Repeat("x", 256), strings.Repeat("x", 256+60), strings.Repeat("\x00", 1<<20)}
}

// outside are numbers that are not from 0 to Q - 1, some of which are one modulo Q, or in their lower bits.
func outside() []int {
	return []int{-1, -2, -1012, -1013, -1014, 1013, 1014, 2025, 2026, 4051, 4052, 4053, 1 << 16, 1 << 32, 1<<32 + 1, 1 << 62, math.MaxInt, math.MinInt, math.MinInt + 1}
}

// noSecrets are outside, and 0.
func noSecrets() []int { return append(outside(), 0) }

// edges are numbers that may be secrets: the least, the greatest, and some between.
func edges() []int { return []int{1, 2, 29, 506, 507, 1011, 1012} }

// numbers has some that may be, and some that may not.
func numbers() []int { return []int{0, 1, 506, 1012, 1013, -1, math.MaxInt, math.MinInt} }

func isOutside(n int) bool { return n < 0 || n > 1012 }

// beside has spots of the curve that do not count, one of each order: 2, 4, twice Q and Whole.
func beside() []api.Spot { return []api.Spot{flat, four, twice, whole} }

// rights has spots of every kind that is right.
func rights() []api.Spot { return append(beside(), far, base, minus, mine) }

// wrong is a spot, and what is told of it: OK, if it is right.
type wrong struct {
	s    api.Spot
	want api.Errno
}

// wrongs has spots that are none: out of range at each place, Far and somewhere, beside the curve.
func wrongs() (l []wrong) {
	for _, n := range []int{-1, -4051, 4051, 4052, 1 << 16, math.MaxInt, math.MinInt} {
		l = append(l,
			wrong{api.Spot{X: n}, api.ErrRange},
			wrong{api.Spot{Y: n}, api.ErrRange},
			wrong{api.Spot{X: n, Y: 3667}, api.ErrRange},
			wrong{api.Spot{X: 1189, Y: n}, api.ErrRange},
			wrong{api.Spot{X: n, Far: true}, api.ErrRange},
			wrong{api.Spot{Y: n, Far: true}, api.ErrRange},
		)
	}
	return append(l,
		wrong{api.Spot{X: 1189 + 4051, Y: 3667}, api.ErrRange},
		wrong{api.Spot{X: 1189, Y: 3667 - 4051}, api.ErrRange},
		wrong{api.Spot{X: 1, Far: true}, api.ErrRange},
		wrong{api.Spot{X: 1189, Y: 3667, Far: true}, api.ErrRange},
		wrong{off, api.ErrShape},
		wrong{api.Spot{X: 1189}, api.ErrShape},
		wrong{api.Spot{Y: 1}, api.ErrShape},
		wrong{api.Spot{X: 4050, Y: 4050}, api.ErrShape},
	)
}

// kinds has one of each kind of spot.
func kinds() []wrong {
	return []wrong{
		{far, api.OK}, {base, api.OK}, {whole, api.OK},
		{wide, api.ErrRange}, {api.Spot{X: 1, Far: true}, api.ErrRange}, {off, api.ErrShape},
	}
}

// world has all spots in a row, each as so many times the first one of it: sums of spots are those of their places, modulo Whole.
type world struct {
	row []api.Spot
	at  map[api.Spot]int
}

func newWorld(t *testing.T) world {
	t.Helper()
	w := world{at: map[api.Spot]int{}}
	for s := far; len(w.row) < 4052; {
		w.at[s] = len(w.row)
		w.row = append(w.row, s)
		next, err := curve.Add(s, whole)
		if err != nil {
			t.Fatalf("Add(%v, %v): %v", s, whole, err)
		}
		s = next
	}
	if len(w.at) != 4052 {
		t.Fatalf("%v comes by %d spots, want 4052", whole, len(w.at))
	}
	return w
}

// times is n times Base, n from 0 on.
func (w world) times(n int) api.Spot { return w.row[n*w.at[base]%4052] }

// sum of spots that are right.
func (w world) sum(a, b api.Spot) api.Spot { return w.row[(w.at[a]+w.at[b])%4052] }

// some has spots of every kind, and each step-th of all.
func (w world) some(step int) []api.Spot {
	l := rights()
	for k := 1; k < 4052; k += step {
		l = append(l, w.row[k])
	}
	return l
}

// pre is what Pre says by the words of the document.
func (w world) pre(x, k int, t api.Spot, text string) api.Seal {
	r := w.sum(w.times(k), t)
	return api.Seal{R: r, S: (k + asked(r, w.times(x), text)*x) % 1013}
}

// right tells by places alone whether S times Base, and t, is R, and Ask times the key.
func (w world) right(key, t api.Spot, text string, p api.Seal) bool {
	return (p.S*w.at[base]+w.at[t]-w.at[p.R]-asked(p.R, key, text)*w.at[key])%4052 == 0
}

// packed has the bytes of a spot, told without package bytes.
func packed(s api.Spot) []byte {
	switch {
	case s.Far:
		return []byte{0}
	case s.Y <= (4051-s.Y)%4051:
		return []byte{1, byte(s.X / 256), byte(s.X % 256)}
	}
	return []byte{2, byte(s.X / 256), byte(s.X % 256)}
}

// asked is chapter 8's Ask of right spots, told without packages seal, bytes and hash.
func asked(r, key api.Spot, text string) int {
	n := 5
	for _, part := range [][]byte{packed(r), packed(key), []byte(text)} {
		for _, b := range part {
			n = (n*263 + int(b) + 1) % 1000003
		}
	}
	return n % 1013
}

// pick is a row of numbers that look as if by chance, the same ones each time.
type pick int

func (p *pick) below(n int) int {
	*p = (*p*1103515245 + 12345) & (1<<31 - 1)
	return int(*p>>8) % n
}

// secret is a number from 1 to Q - 1.
func (p *pick) secret() int { return 1 + p.below(1012) }

func checkPre(t *testing.T, x, k int, at api.Spot, text string, want api.Seal) {
	t.Helper()
	if got, err := Pre(x, k, at, text); got != want || err != nil {
		t.Errorf("Pre(%d, %d, %v, %q) is %v, %v, want %v", x, k, at, text, got, err, want)
	}
}

// checkMade is checkPre of what is right; what is told must be right as well.
func (w world) checkMade(t *testing.T, x, k int, at api.Spot, text string) {
	t.Helper()
	want := w.pre(x, k, at, text)
	checkPre(t, x, k, at, text, want)
	checkCheck(t, w.times(x), at, text, want, true)
}

func failPre(t *testing.T, x, k int, at api.Spot, text string, want api.Errno) {
	t.Helper()
	if got, err := Pre(x, k, at, text); got != (api.Seal{}) || plain.Told(err) != want {
		t.Errorf("Pre(%d, %d, %v) of %d bytes is %v, %v, want %v", x, k, at, len(text), got, err, want)
	}
}

func mustPre(t *testing.T, x, k int, at api.Spot, text string) api.Seal {
	t.Helper()
	p, err := Pre(x, k, at, text)
	if err != nil {
		t.Fatalf("Pre(%d, %d, %v, %q): %v", x, k, at, text, err)
	}
	return p
}

func checkCheck(t *testing.T, key, at api.Spot, text string, p api.Seal, want bool) {
	t.Helper()
	if got, err := Check(key, at, text, p); got != want || err != nil {
		t.Errorf("Check(%v, %v, %q, %v) is %v, %v, want %v", key, at, text, p, got, err, want)
	}
}

// checkChecked is checkCheck of what is in range, told by places.
func (w world) checkChecked(t *testing.T, key, at api.Spot, text string, p api.Seal) {
	t.Helper()
	checkCheck(t, key, at, text, p, w.right(key, at, text, p))
}

func failCheck(t *testing.T, key, at api.Spot, text string, p api.Seal, want api.Errno) {
	t.Helper()
	if got, err := Check(key, at, text, p); got || plain.Told(err) != want {
		t.Errorf("Check(%v, %v, %d bytes, %v) is %v, %v, want %v", key, at, len(text), p, got, err, want)
	}
}

func checkFill(t *testing.T, p api.Seal, n int, want api.Seal) {
	t.Helper()
	if got, err := Fill(p, n); got != want || err != nil {
		t.Errorf("Fill(%v, %d) is %v, %v, want %v", p, n, got, err, want)
	}
}

func failFill(t *testing.T, p api.Seal, n int, want api.Errno) {
	t.Helper()
	if got, err := Fill(p, n); got != (api.Seal{}) || plain.Told(err) != want {
		t.Errorf("Fill(%v, %d) is %v, %v, want %v", p, n, got, err, want)
	}
}

func mustFill(t *testing.T, p api.Seal, n int) api.Seal {
	t.Helper()
	s, err := Fill(p, n)
	if err != nil {
		t.Fatalf("Fill(%v, %d): %v", p, n, err)
	}
	return s
}

func checkFind(t *testing.T, p, s api.Seal, want int) {
	t.Helper()
	if got, err := Find(p, s); got != want || err != nil {
		t.Errorf("Find(%v, %v) is %d, %v, want %d", p, s, got, err, want)
	}
}

func failFind(t *testing.T, p, s api.Seal, want api.Errno) {
	t.Helper()
	if got, err := Find(p, s); got != 0 || plain.Told(err) != want {
		t.Errorf("Find(%v, %v) is %d, %v, want %v", p, s, got, err, want)
	}
}

// checkSeal asks chapter 8's Verify.
func checkSeal(t *testing.T, key api.Spot, text string, s api.Seal, want bool) {
	t.Helper()
	if got, err := seal.Verify(key, text, s); got != want || err != nil {
		t.Errorf("seal.Verify(%v, %q, %v) is %v, %v, want %v", key, text, s, got, err, want)
	}
}

// What is told is right; filled with the number of t it is a seal, and that number is found of both.
func TestWhatIsFilledIsASeal(t *testing.T) {
	w, p := newWorld(t), pick(1)
	for n := range 1013 {
		for _, text := range []string{"", "pay 5", full} {
			x, k, at := p.secret(), p.secret(), w.times(n)
			key := w.times(x)
			made := mustPre(t, x, k, at, text)
			checkCheck(t, key, at, text, made, true)
			// Ahead of that it is none, unless nothing is lacking.
			checkSeal(t, key, text, made, n == 0)
			filled := mustFill(t, made, n)
			checkSeal(t, key, text, filled, true)
			checkFind(t, made, filled, n)
		}
	}
}

// With another number it is no seal: of all numbers, none but that of t does.
func TestFilledWithAnotherNumberItIsNoSeal(t *testing.T) {
	w := newWorld(t)
	for _, n := range append(edges(), 0) {
		for _, k := range []int{1, 300, 1013 - max(n, 1)} {
			made := mustPre(t, 29, k, w.times(n), "pay 5")
			for other := range 1013 {
				checkSeal(t, mine, "pay 5", mustFill(t, made, other), other == n)
			}
		}
	}
}

// What does not count has no number: nothing fills it.
func TestNothingFillsWhatDoesNotCount(t *testing.T) {
	for _, at := range beside() {
		made := mustPre(t, 29, 300, at, "pay 5")
		checkCheck(t, mine, at, "pay 5", made, true)
		for n := range 1013 {
			checkSeal(t, mine, "pay 5", mustFill(t, made, n), false)
		}
	}
}

func TestPreByHand(t *testing.T) {
	cases := []struct {
		x, k int
		t    api.Spot
		text string
		want api.Seal
	}{
		{29, 300, yours, "pay 5", api.Seal{R: api.Spot{X: 194, Y: 3018}, S: 829}},
		{29, 300, yours, "pay 6", api.Seal{R: api.Spot{X: 194, Y: 3018}, S: 858}},
		{77, 300, mine, "pay 5", api.Seal{R: api.Spot{X: 3525, Y: 2830}, S: 274}},
		// k and t in each other's stead: R is the same, but S is not.
		{29, 77, third, "pay 5", api.Seal{R: api.Spot{X: 194, Y: 3018}, S: 606}},
		// t is k times Base, or is Far.
		{1, 1, base, "", api.Seal{R: api.Spot{X: 3695, Y: 2989}, S: 571}},
		{506, 507, api.Spot{X: 1521, Y: 2449}, bright, api.Seal{R: base, S: 813}},
		{1, 1, far, "", api.Seal{R: base, S: 20}},
		// t undoes k times Base.
		{1, 1, minus, "", api.Seal{R: far, S: 381}},
		{1012, 1, minus, "pay 5", api.Seal{R: far, S: 973}},
		{1012, 1012, base, full, api.Seal{R: far, S: 684}},
		{506, 507, api.Spot{X: 1521, Y: 1602}, bright, api.Seal{R: far, S: 989}},
		{658, 4, api.Spot{X: 2415, Y: 96}, "\x00", api.Seal{R: far, S: 158}},
		{29, 300, api.Spot{X: 607, Y: 2726}, euros, api.Seal{R: far, S: 706}},
		// t does not count.
		{29, 300, flat, "a", api.Seal{R: api.Spot{X: 2803, Y: 28}, S: 724}},
		{29, 300, four, "a", api.Seal{R: api.Spot{X: 1570, Y: 2922}, S: 814}},
		{29, 300, twice, "a", api.Seal{R: api.Spot{X: 784, Y: 2316}, S: 192}},
		{29, 300, whole, "a", api.Seal{R: api.Spot{X: 1679, Y: 758}, S: 4}},
		{1012, 1, flat, full, api.Seal{R: api.Spot{X: 2218, Y: 2488}, S: 507}},
		{1, 1012, whole, bright, api.Seal{R: api.Spot{X: 2014, Y: 55}, S: 627}},
		// S is 0, and Q - 1.
		{29, 814, yours, "pay 5", api.Seal{R: api.Spot{X: 437, Y: 3381}, S: 0}},
		{2, 199, yours, "pay 5", api.Seal{R: api.Spot{X: 1479, Y: 3284}, S: 1012}},
		// What is asked is 0, so that S is k.
		{2, 136, yours, "pay 5", api.Seal{R: api.Spot{X: 228, Y: 1059}, S: 136}},
	}
	w := newWorld(t)
	for _, c := range cases {
		// What comes of the same is the same each time.
		for range 2 {
			checkPre(t, c.x, c.k, c.t, c.text, c.want)
		}
		checkCheck(t, w.times(c.x), c.t, c.text, c.want, true)
	}
}

func TestPreOfEachSecret(t *testing.T) {
	w, p := newWorld(t), pick(2)
	for n := 1; n <= 1012; n++ {
		w.checkMade(t, n, p.secret(), w.times(p.below(1013)), "pay 5")
		w.checkMade(t, p.secret(), n, w.times(p.below(1013)), full)
		w.checkMade(t, p.secret(), p.secret(), w.times(n), "")
		// t undoes k times Base, and is the same as it.
		w.checkMade(t, p.secret(), n, w.times(1013-n), "pay 5")
		w.checkMade(t, p.secret(), n, w.times(n), "pay 5")
	}
}

func TestPreAtTheEdges(t *testing.T) {
	w := newWorld(t)
	for _, x := range edges() {
		for _, k := range edges() {
			for _, at := range rights() {
				for _, text := range []string{"", "pay 5", full} {
					w.checkMade(t, x, k, at, text)
				}
			}
		}
	}
}

func TestPreOfEachSpot(t *testing.T) {
	w := newWorld(t)
	for _, at := range w.row {
		w.checkMade(t, 29, 300, at, "pay 5")
		w.checkMade(t, 1012, 1, at, full)
	}
}

// The bound is of the text alone, whatever the spots take.
func TestPreOfEachLength(t *testing.T) {
	w := newWorld(t)
	for n := range 61 {
		for _, text := range []string{full[:n], bright[:n], euros[:n], strings.Repeat("\x00", n)} {
			for _, at := range []api.Spot{far, yours, whole, w.times(1013 - 300)} {
				w.checkMade(t, 29, 300, at, text)
			}
		}
	}
}

// Where nothing is lacking it is a seal.
func TestPreOfFarIsASeal(t *testing.T) {
	p := pick(3)
	for _, text := range ordinary() {
		for range 50 {
			x, k := p.secret(), p.secret()
			want, err := seal.Sign(x, k, text)
			if err != nil {
				t.Fatalf("Sign(%d, %d, %q): %v", x, k, text, err)
			}
			checkPre(t, x, k, far, text, want)
		}
	}
}

// What is no secret is told ahead of what is wrong with t, and with the text.
func TestPreOfWhatIsNoSecret(t *testing.T) {
	for _, n := range noSecrets() {
		for _, a := range kinds() {
			for _, text := range []string{"", "pay 5", full, over} {
				for _, e := range edges() {
					failPre(t, n, e, a.s, text, api.ErrRange)
					failPre(t, e, n, a.s, text, api.ErrRange)
				}
				for _, m := range noSecrets() {
					failPre(t, n, m, a.s, text, api.ErrRange)
				}
			}
		}
	}
}

func TestPreTellsOfTAheadOfTheText(t *testing.T) {
	for _, a := range wrongs() {
		for _, e := range edges() {
			for _, text := range append(ordinary(), over) {
				failPre(t, e, 300, a.s, text, a.want)
				failPre(t, 29, e, a.s, text, a.want)
			}
		}
	}
}

func TestPreOfTooLongAText(t *testing.T) {
	for _, text := range overTexts() {
		for _, at := range rights() {
			for _, e := range edges() {
				failPre(t, e, 1, at, text, api.ErrFull)
				failPre(t, 1012, e, at, text, api.ErrFull)
			}
		}
	}
}

// preFault is what Pre tells, in the order that the document names.
func preFault(x, k int, at wrong, text string) api.Errno {
	switch {
	case isOutside(x) || isOutside(k) || x == 0 || k == 0:
		return api.ErrRange
	case at.want != api.OK:
		return at.want
	case len(text) > 60:
		return api.ErrFull
	}
	return api.OK
}

// Each thing that may be wrong with each other one.
func TestPreTellsOfTheFirst(t *testing.T) {
	w := newWorld(t)
	for _, x := range numbers() {
		for _, k := range numbers() {
			for _, a := range kinds() {
				for _, text := range []string{"", "pay 5", full, over} {
					if want := preFault(x, k, a, text); want != api.OK {
						failPre(t, x, k, a.s, text, want)
						continue
					}
					w.checkMade(t, x, k, a.s, text)
				}
			}
		}
	}
}

func TestCheckByHand(t *testing.T) {
	cases := []struct {
		key, t api.Spot
		p      api.Seal
	}{
		// The key, t and R are Far: all of them, two, and one.
		{far, far, api.Seal{R: far, S: 0}},
		{far, far, api.Seal{R: api.Spot{X: 5, Y: 777}, S: 416}},
		{far, mine, api.Seal{R: far, S: 984}},
		{far, mine, api.Seal{R: api.Spot{X: 5, Y: 777}, S: 387}},
		{mine, far, api.Seal{R: far, S: 440}},
		{mine, far, api.Seal{R: api.Spot{X: 5, Y: 777}, S: 727}},
		{mine, mine, api.Seal{R: far, S: 411}},
		{mine, mine, api.Seal{R: api.Spot{X: 5, Y: 777}, S: 698}},
		// t does not count, and with it R.
		{far, flat, api.Seal{R: flat, S: 0}},
		{mine, flat, api.Seal{R: flat, S: 56}},
		{mine, four, api.Seal{R: api.Spot{X: 3, Y: 156}, S: 315}},
		{mine, twice, api.Seal{R: api.Spot{X: 16, Y: 1902}, S: 809}},
		{mine, whole, api.Seal{R: api.Spot{X: 8, Y: 1554}, S: 758}},
		// The key does not count, with a t that does, and with an R that does.
		{flat, mine, api.Seal{R: flat, S: 984}},
		{flat, far, api.Seal{R: api.Spot{X: 5, Y: 777}, S: 416}},
		{four, mine, api.Seal{R: api.Spot{X: 10, Y: 1779}, S: 484}},
		{twice, mine, api.Seal{R: far, S: 839}},
		{whole, mine, api.Seal{R: api.Spot{X: 5, Y: 777}, S: 628}},
		// Neither the key nor t does, and R does, or does not.
		{flat, flat, api.Seal{R: far, S: 0}},
		{flat, twice, api.Seal{R: far, S: 199}},
		{four, flat, api.Seal{R: far, S: 0}},
		{four, four, api.Seal{R: api.Spot{X: 3, Y: 156}, S: 760}},
		{twice, whole, api.Seal{R: api.Spot{X: 3, Y: 156}, S: 220}},
		{whole, flat, api.Seal{R: far, S: 20}},
		{whole, whole, api.Seal{R: api.Spot{X: 8, Y: 1554}, S: 385}},
	}
	for _, c := range cases {
		for range 2 {
			checkCheck(t, c.key, c.t, "pay 5", c.p, true)
		}
		checkCheck(t, c.key, c.t, "pay 5", api.Seal{R: c.p.R, S: (c.p.S + 1) % 1013}, false)
		checkCheck(t, c.key, c.t, "pay 5", api.Seal{R: c.p.R, S: (c.p.S + 1012) % 1013}, false)
	}
}

// Of all numbers none but the S of what was told is right.
func TestCheckWithAnotherS(t *testing.T) {
	w := newWorld(t)
	for _, x := range edges() {
		for _, at := range rights() {
			p := mustPre(t, x, 300, at, "pay 5")
			for s := range 1013 {
				checkCheck(t, w.times(x), at, "pay 5", api.Seal{R: p.R, S: s}, s == p.S)
			}
		}
	}
}

// No t but the one is right; another R or key may be by luck: places tell just which.
func TestCheckWithEachOtherSpot(t *testing.T) {
	w := newWorld(t)
	for _, at := range []api.Spot{yours, far, whole} {
		p := mustPre(t, 29, 300, at, "pay 5")
		for _, s := range w.row {
			checkCheck(t, mine, s, "pay 5", p, s == at)
			w.checkChecked(t, mine, at, "pay 5", api.Seal{R: s, S: p.S})
			w.checkChecked(t, s, at, "pay 5", p)
		}
	}
}

func TestCheckWithAnotherTextKeyOrSpot(t *testing.T) {
	p := mustPre(t, 29, 300, yours, euros)
	checkCheck(t, mine, yours, euros, p, true)
	for _, text := range []string{"", "a", full, bright, euros[:59], euros[:57], euros[1:], euros[:59] + "\xad", "\x00" + euros[1:]} {
		checkCheck(t, mine, yours, text, p, false)
	}
	// Among them each Neg, and what is in the other's stead.
	for _, s := range append(beside(), far, base, minus, third, api.Spot{X: 1710, Y: 2210}, api.Spot{X: 1742, Y: 2002}, api.Spot{X: 194, Y: 1033}) {
		checkCheck(t, s, yours, euros, p, false)
		checkCheck(t, mine, s, euros, p, false)
		checkCheck(t, mine, yours, euros, api.Seal{R: s, S: p.S}, false)
	}
	checkCheck(t, yours, mine, euros, p, false)
	// With t taken from R it is no more what was asked.
	checkCheck(t, mine, far, euros, api.Seal{R: third, S: p.S}, false)
}

func TestCheckIsToldByPlaces(t *testing.T) {
	w, p := newWorld(t), pick(4)
	for _, key := range w.some(577) {
		for _, at := range w.some(577) {
			for _, r := range w.some(577) {
				for _, s := range []int{0, p.below(1013), 1012} {
					w.checkChecked(t, key, at, "pay 5", api.Seal{R: r, S: s})
				}
			}
		}
	}
}

// Of each key, t and R there is one S that is right, if what they come to counts, and else none.
func TestCheckHasOneNumberThatDoes(t *testing.T) {
	w := newWorld(t)
	spots := []api.Spot{far, flat, whole, yours}
	for _, key := range spots {
		for _, at := range spots {
			for _, r := range spots {
				many, want := 0, 0
				for s := range 1013 {
					p := api.Seal{R: r, S: s}
					w.checkChecked(t, key, at, "a", p)
					if is, err := Check(key, at, "a", p); is && err == nil {
						many++
					}
				}
				if (w.at[r]+asked(r, key, "a")*w.at[key]-w.at[at])%4 == 0 {
					want = 1
				}
				if many != want {
					t.Errorf("of %v, %v and %v %d numbers do, want %d", key, at, r, many, want)
				}
			}
		}
	}
}

// Where nothing is lacking it is chapter 8's Verify.
func TestCheckOfFarIsVerify(t *testing.T) {
	w, p := newWorld(t), pick(5)
	for _, text := range ordinary() {
		for range 50 {
			x, s := p.secret(), p.below(1013)
			made, err := seal.Sign(x, p.secret(), text)
			if err != nil {
				t.Fatalf("Sign of %d and %q: %v", x, text, err)
			}
			checkCheck(t, w.times(x), far, text, made, true)
			checkCheck(t, w.times(x), far, text, api.Seal{R: made.R, S: s}, s == made.S)
		}
	}
}

// A number that is as good modulo Q, or modulo Whole, is out of range all the same.
func TestCheckOfANumberOutOfRange(t *testing.T) {
	for _, at := range rights() {
		p := mustPre(t, 29, 300, at, "pay 5")
		for _, d := range []int{1013, -1013, 4052, -4052, 1013 << 40} {
			failCheck(t, mine, at, "pay 5", api.Seal{R: p.R, S: p.S + d}, api.ErrRange)
		}
		for _, s := range outside() {
			for _, key := range rights() {
				failCheck(t, key, at, full, api.Seal{R: p.R, S: s}, api.ErrRange)
				failCheck(t, key, at, "", api.Seal{R: far, S: s}, api.ErrRange)
				// It is told ahead of what is wrong with t.
				failCheck(t, key, off, "pay 5", api.Seal{R: p.R, S: s}, api.ErrRange)
			}
		}
	}
}

// The key is told ahead of R, R ahead of S, and t behind all of them.
func TestCheckOfWrongSpots(t *testing.T) {
	for _, a := range wrongs() {
		for _, s := range rights() {
			for _, n := range numbers() {
				failCheck(t, a.s, s, "pay 5", api.Seal{R: s, S: n}, a.want)
				failCheck(t, s, s, full, api.Seal{R: a.s, S: n}, a.want)
			}
			for _, n := range []int{0, 1, 506, 1012} {
				failCheck(t, s, a.s, "pay 5", api.Seal{R: s, S: n}, a.want)
			}
		}
		for _, b := range wrongs() {
			failCheck(t, a.s, b.s, "pay 5", api.Seal{R: b.s, S: -1}, a.want)
			failCheck(t, a.s, b.s, "pay 5", api.Seal{R: base}, a.want)
			failCheck(t, base, b.s, "pay 5", api.Seal{R: a.s, S: 1013}, a.want)
		}
	}
}

func TestCheckOfTooLongATextTellsItFirst(t *testing.T) {
	for _, text := range overTexts() {
		for _, key := range kinds() {
			for _, at := range kinds() {
				for _, r := range kinds() {
					for _, s := range numbers() {
						failCheck(t, key.s, at.s, text, api.Seal{R: r.s, S: s}, api.ErrFull)
					}
				}
			}
		}
	}
}

// checkFault is what Check tells, in the order that the document names.
func checkFault(key, at wrong, text string, r wrong, s int) api.Errno {
	switch {
	case len(text) > 60:
		return api.ErrFull
	case key.want != api.OK:
		return key.want
	case r.want != api.OK:
		return r.want
	case isOutside(s):
		return api.ErrRange
	}
	return at.want
}

// Each thing that may be wrong with each other one.
func TestCheckTellsOfTheFirst(t *testing.T) {
	w := newWorld(t)
	for _, key := range kinds() {
		for _, at := range kinds() {
			for _, r := range kinds() {
				for _, s := range numbers() {
					for _, text := range []string{"", "pay 5", full, over} {
						p := api.Seal{R: r.s, S: s}
						if want := checkFault(key, at, text, r, s); want != api.OK {
							failCheck(t, key.s, at.s, text, p, want)
							continue
						}
						w.checkChecked(t, key.s, at.s, text, p)
					}
				}
			}
		}
	}
}

func TestFillByHand(t *testing.T) {
	cases := []struct{ s, t, want int }{
		{0, 0, 0}, {0, 1, 1}, {1, 0, 1}, {0, 1012, 1012}, {1012, 0, 1012},
		{1012, 1, 0}, {1, 1012, 0}, {1012, 1012, 1011}, {1011, 1, 1012}, {506, 506, 1012}, {506, 507, 0}, {507, 507, 1},
		{829, 77, 906}, {829, 300, 116}, {2, 3, 5},
	}
	for _, c := range cases {
		for _, r := range append(rights(), yours, third) {
			for range 2 {
				checkFill(t, api.Seal{R: r, S: c.s}, c.t, api.Seal{R: r, S: c.want})
			}
		}
	}
}

func TestFillOfAllNumbers(t *testing.T) {
	for s := range 1013 {
		for n := range 1013 {
			want := s + n
			if want > 1012 {
				want -= 1013
			}
			checkFill(t, api.Seal{R: base, S: s}, n, api.Seal{R: base, S: want})
		}
	}
}

// R stays as it is, whatever it is.
func TestFillOfEachSpot(t *testing.T) {
	w, p := newWorld(t), pick(6)
	for _, r := range w.row {
		s, n := p.below(1013), p.below(1013)
		checkFill(t, api.Seal{R: r, S: s}, n, api.Seal{R: r, S: (s + n) % 1013})
	}
}

func TestFillOfNumbersOutOfRange(t *testing.T) {
	for _, r := range rights() {
		for _, n := range outside() {
			for _, e := range []int{0, 1, 29, 1012} {
				failFill(t, api.Seal{R: r, S: n}, e, api.ErrRange)
				failFill(t, api.Seal{R: r, S: e}, n, api.ErrRange)
			}
			// Also where they would add up to one that may be.
			for _, m := range append(outside(), -n, 1013-n, 1-n) {
				if isOutside(m) {
					failFill(t, api.Seal{R: r, S: n}, m, api.ErrRange)
				}
			}
		}
	}
}

// What is wrong with R is told ahead of what is wrong with S, and with t.
func TestFillTellsOfRFirst(t *testing.T) {
	for _, a := range wrongs() {
		for _, s := range append(outside(), 0, 1, 1012) {
			for _, n := range append(outside(), 0, 1, 1012) {
				failFill(t, api.Seal{R: a.s, S: s}, n, a.want)
			}
		}
	}
}

// Each thing that may be wrong with each other one.
func TestFillTellsOfTheFirst(t *testing.T) {
	for _, a := range kinds() {
		for _, s := range numbers() {
			for _, n := range numbers() {
				p := api.Seal{R: a.s, S: s}
				switch {
				case a.want != api.OK:
					failFill(t, p, n, a.want)
				case isOutside(s) || isOutside(n):
					failFill(t, p, n, api.ErrRange)
				default:
					checkFill(t, p, n, api.Seal{R: a.s, S: (s + n) % 1013})
				}
			}
		}
	}
}

func TestFindByHand(t *testing.T) {
	cases := []struct{ p, s, want int }{
		{0, 0, 0}, {0, 1, 1}, {1, 0, 1012}, {0, 1012, 1012}, {1012, 0, 1},
		{1012, 1012, 0}, {1012, 1011, 1012}, {1011, 1012, 1}, {506, 507, 1}, {507, 506, 1012},
		{829, 906, 77}, {906, 829, 936}, {829, 116, 300},
	}
	for _, c := range cases {
		for _, r := range append(rights(), yours, third) {
			for range 2 {
				checkFind(t, api.Seal{R: r, S: c.p}, api.Seal{R: r, S: c.s}, c.want)
			}
		}
	}
}

// What is found is the one number that fills the one to the other.
func TestFindOfAllNumbers(t *testing.T) {
	for n := range 1013 {
		p := api.Seal{R: base, S: n}
		for m := range 1013 {
			s := api.Seal{R: base, S: m}
			found, err := Find(p, s)
			if err != nil || isOutside(found) {
				t.Fatalf("Find(%v, %v) is %d, %v", p, s, found, err)
			}
			checkFill(t, p, found, s)
			checkFind(t, p, mustFill(t, p, m), m)
		}
	}
}

func TestFindOfEachSpot(t *testing.T) {
	w, p := newWorld(t), pick(7)
	for _, r := range w.row {
		made, n := api.Seal{R: r, S: p.below(1013)}, p.below(1013)
		checkFind(t, made, api.Seal{R: r, S: (made.S + n) % 1013}, n)
		// A seal lacks nothing of itself.
		checkFind(t, made, made, 0)
	}
}

func TestFindOfAnotherR(t *testing.T) {
	w := newWorld(t)
	for _, s := range w.row {
		for _, r := range append(rights(), yours, third) {
			if s == r {
				continue
			}
			for _, n := range []int{0, 77, 1012} {
				failFind(t, api.Seal{R: s, S: 5}, api.Seal{R: r, S: n}, api.ErrShape)
				failFind(t, api.Seal{R: r, S: n}, api.Seal{R: s, S: n}, api.ErrShape)
			}
		}
		// One and its Neg are not the same, unless they are one.
		neg := w.row[(4052-w.at[s])%4052]
		if neg != s {
			failFind(t, api.Seal{R: s, S: 5}, api.Seal{R: neg, S: 5}, api.ErrShape)
		}
	}
	failFind(t, api.Seal{R: flat}, api.Seal{R: far}, api.ErrShape)
	failFind(t, api.Seal{R: far}, api.Seal{R: flat}, api.ErrShape)
}

// A number that may not be is told ahead of R that are not the same.
func TestFindOfNumbersOutOfRange(t *testing.T) {
	for _, r := range rights() {
		for _, n := range outside() {
			for _, other := range []api.Spot{r, third} {
				for _, e := range []int{0, 1, 29, 1012} {
					failFind(t, api.Seal{R: r, S: n}, api.Seal{R: other, S: e}, api.ErrRange)
					failFind(t, api.Seal{R: r, S: e}, api.Seal{R: other, S: n}, api.ErrRange)
				}
				for _, m := range outside() {
					failFind(t, api.Seal{R: r, S: n}, api.Seal{R: other, S: m}, api.ErrRange)
				}
			}
		}
	}
}

// R of p is told ahead of R of s, and both ahead of all else, also where they are the same.
func TestFindTellsOfTheSpotsFirst(t *testing.T) {
	for _, a := range wrongs() {
		for _, n := range numbers() {
			for _, r := range rights() {
				failFind(t, api.Seal{R: a.s, S: n}, api.Seal{R: r, S: 5}, a.want)
				failFind(t, api.Seal{R: a.s, S: 5}, api.Seal{R: r, S: n}, a.want)
				failFind(t, api.Seal{R: r, S: n}, api.Seal{R: a.s, S: 5}, a.want)
				failFind(t, api.Seal{R: r, S: 5}, api.Seal{R: a.s, S: n}, a.want)
			}
			for _, b := range wrongs() {
				failFind(t, api.Seal{R: a.s, S: n}, api.Seal{R: b.s, S: n}, a.want)
			}
		}
	}
}

// findFault is what Find tells, in the order that the document names.
func findFault(p, s wrong, n, m int) api.Errno {
	switch {
	case p.want != api.OK:
		return p.want
	case s.want != api.OK:
		return s.want
	case isOutside(n) || isOutside(m):
		return api.ErrRange
	case p.s != s.s:
		return api.ErrShape
	}
	return api.OK
}

// Each thing that may be wrong with each other one.
func TestFindTellsOfTheFirst(t *testing.T) {
	for _, a := range kinds() {
		for _, b := range kinds() {
			for _, n := range numbers() {
				for _, m := range numbers() {
					p, s := api.Seal{R: a.s, S: n}, api.Seal{R: b.s, S: m}
					if want := findFault(a, b, n, m); want != api.OK {
						failFind(t, p, s, want)
						continue
					}
					checkFind(t, p, s, (m-n+1013)%1013)
				}
			}
		}
	}
}
