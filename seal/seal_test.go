package seal

import (
	"math"
	"strings"
	"testing"

	"pairstone/api"
	"pairstone/curve"
	"pairstone/plain"
)

var (
	far = api.Spot{Far: true}
	// flat has Y 0: twice it is Far, so that it does not count.
	flat = api.Spot{}
	base = api.Spot{X: 1189, Y: 3667}
)

// The texts at the edge of what may be: letters of one byte, and of three.
var (
	full   = strings.Repeat("x", 60)
	over   = strings.Repeat("x", 61)
	euros  = strings.Repeat("\xe2\x82\xac", 20)
	bright = strings.Repeat("\xff", 60)
)

func texts() []string {
	return []string{"", "a", "pay 5", "pay 6", "\x00", "\x00\x00", "\xff", full[1:], full, euros, bright}
}

// overTexts are more bytes than may be, also where they are fewer letters, or so many that a number of one byte goes round.
func overTexts() []string {
	return []string{over, strings.Repeat("\xc3\xa9", 31), euros + "\x00", bright + "a", strings.Repeat("x", 120), strings.Repeat("x", 256), strings.Repeat("x", 256+60), strings.Repeat("\x00", 1<<20)}
}

// world has all spots in a row, each as so many times the first one of it, added one by one: sums of spots are those of their places, modulo Whole.
type world struct {
	row []api.Spot
	at  map[api.Spot]int
}

func newWorld(t *testing.T) world {
	t.Helper()
	first := api.Spot{X: 107, Y: 3793}
	w := world{at: map[api.Spot]int{}}
	for s := far; len(w.row) < api.Whole; {
		w.at[s] = len(w.row)
		w.row = append(w.row, s)
		next, err := curve.Add(s, first)
		if err != nil {
			t.Fatalf("Add(%v, %v): %v", s, first, err)
		}
		s = next
	}
	if len(w.at) != api.Whole {
		t.Fatalf("%v comes by %d spots, want %d", first, len(w.at), api.Whole)
	}
	return w
}

// times is n times Base, n from 0 on.
func (w world) times(n int) api.Spot { return w.row[n*w.at[base]%api.Whole] }

// right tells by places alone whether S times Base is R and Ask times the key.
func (w world) right(key api.Spot, text string, s api.Seal) bool {
	return (s.S*w.at[base]-w.at[s.R]-asked(s.R, key, text)*w.at[key])%api.Whole == 0
}

// some has spots of every kind: Far, of each order there is, and each step-th of all.
func (w world) some(step int) []api.Spot {
	l := append([]api.Spot{far, base, {X: 1189, Y: 384}}, beside()...)
	for k := 1; k < api.Whole; k += step {
		l = append(l, w.row[k])
	}
	return l
}

// beside has spots of the curve that do not count, one of each order: 2, 4, twice Q and Whole.
func beside() []api.Spot {
	return []api.Spot{flat, {X: api.P - 1, Y: 90}, {X: 3180, Y: 1220}, {X: 107, Y: 3793}}
}

// packed has the bytes of a spot, told without package bytes.
func packed(s api.Spot) []byte {
	switch {
	case s.Far:
		return []byte{0}
	case s.Y <= (4051-s.Y)%4051:
		return []byte{1, byte(s.X / 256), byte(s.X % 256)}
	}
	return []byte{2, byte(s.X / 256), byte(s.X % 256)}
}

// asked is Ask of right spots, told without package hash.
func asked(r, key api.Spot, text string) int {
	n := 5
	for _, part := range [][]byte{packed(r), packed(key), []byte(text)} {
		for _, b := range part {
			n = (n*263 + int(b) + 1) % 1000003
		}
	}
	return n % 1013
}

// wrong is a spot, and what is told of it.
type wrong struct {
	s    api.Spot
	want api.Errno
}

// wrongs has spots that are none: out of range at each place, Far and somewhere, beside the curve.
func wrongs() (l []wrong) {
	for _, n := range []int{-1, -api.P, api.P, api.P + 1, 1 << 16, math.MaxInt, math.MinInt} {
		l = append(l,
			wrong{api.Spot{X: n}, api.ErrRange},
			wrong{api.Spot{Y: n}, api.ErrRange},
			wrong{api.Spot{X: n, Y: 3667}, api.ErrRange},
			wrong{api.Spot{X: 1189, Y: n}, api.ErrRange},
			wrong{api.Spot{X: n, Far: true}, api.ErrRange},
			wrong{api.Spot{Y: n, Far: true}, api.ErrRange},
		)
	}
	return append(l,
		wrong{api.Spot{X: 1189 + api.P, Y: 3667}, api.ErrRange},
		wrong{api.Spot{X: 1189, Y: 3667 - api.P}, api.ErrRange},
		wrong{api.Spot{X: 1, Far: true}, api.ErrRange},
		wrong{api.Spot{X: 1189, Y: 3667, Far: true}, api.ErrRange},
		wrong{api.Spot{X: 1189, Y: 3666}, api.ErrShape},
		wrong{api.Spot{X: 1189}, api.ErrShape},
		wrong{api.Spot{Y: 1}, api.ErrShape},
		wrong{api.Spot{X: api.P - 1, Y: api.P - 1}, api.ErrShape},
	)
}

// outside are numbers that are no secret, some of which are one modulo Q.
func outside() []int {
	return []int{0, -1, -2, -1012, -1013, -1014, 1013, 1014, 1015, 2026, 4051, 4052, 4053, 1 << 16, 1 << 32, 1<<32 + 1, 1 << 62, math.MaxInt, math.MinInt, math.MinInt + 1}
}

// edges are numbers that are secrets: the least, the greatest, and some between.
func edges() []int { return []int{1, 2, 3, 29, 506, 507, 658, 1011, 1012} }

func checkKey(t *testing.T, x int, want api.Spot) {
	t.Helper()
	if got, err := Key(x); got != want || err != nil {
		t.Errorf("Key(%d) is %v, %v, want %v", x, got, err, want)
	}
}

func TestKeyByHand(t *testing.T) {
	checkKey(t, 1, base)
	checkKey(t, 2, api.Spot{X: 3695, Y: 2989})
	checkKey(t, 29, api.Spot{X: 1710, Y: 1841})
	checkKey(t, 506, api.Spot{X: 1521, Y: 1602})
	checkKey(t, 658, api.Spot{X: 1618, Y: 4042})
	checkKey(t, api.Q-1, api.Spot{X: 1189, Y: 384})
}

func TestKeyOfEachSecret(t *testing.T) {
	w := newWorld(t)
	for x := 1; x < api.Q; x++ {
		checkKey(t, x, w.times(x))
	}
}

func TestKeyOfWhatIsNoSecret(t *testing.T) {
	for _, x := range outside() {
		if got, err := Key(x); got != (api.Spot{}) || plain.Told(err) != api.ErrRange {
			t.Errorf("Key(%d) is %v, %v, want ErrRange", x, got, err)
		}
	}
}

func checkAsk(t *testing.T, r, key api.Spot, text string, want int) {
	t.Helper()
	if got, err := Ask(r, key, text); got != want || err != nil {
		t.Errorf("Ask(%v, %v, %q) is %d, %v, want %d", r, key, text, got, err, want)
	}
}

func TestAskByHand(t *testing.T) {
	cases := []struct {
		r, key api.Spot
		text   string
		want   int
	}{
		{far, far, "", 676},
		{far, flat, "", 904},
		{flat, far, "", 555},
		{flat, flat, "a", 119},
		{api.Spot{X: 4050, Y: 90}, api.Spot{X: 107, Y: 3793}, "pay 5", 854},
		{api.Spot{X: 107, Y: 3793}, api.Spot{X: 4050, Y: 90}, "pay 5", 963},
		{api.Spot{X: 3180, Y: 1220}, far, full, 742},
		{far, api.Spot{X: 3180, Y: 1220}, full, 640},
		{api.Spot{X: 1014, Y: 542}, api.Spot{X: 1014, Y: 3509}, "\x00", 90},
		{api.Spot{X: 1014, Y: 3509}, api.Spot{X: 1014, Y: 542}, "\x00", 526},
		// What is asked may be 0.
		{api.Spot{X: 632, Y: 589}, base, "pay 5", 0},
	}
	for _, c := range cases {
		checkAsk(t, c.r, c.key, c.text, c.want)
	}
}

func TestAskOfEachSpot(t *testing.T) {
	w := newWorld(t)
	for _, s := range w.row {
		for _, other := range []api.Spot{far, flat, base, {X: 107, Y: 3793}, s} {
			checkAsk(t, s, other, "pay 5", asked(s, other, "pay 5"))
			checkAsk(t, other, s, full, asked(other, s, full))
		}
	}
}

func TestAskOfEachLength(t *testing.T) {
	for n := range api.MaxText + 1 {
		for _, text := range []string{full[:n], bright[:n], euros[:n], strings.Repeat("\x00", n)} {
			// The bound is of the text alone, whatever the spots take.
			for _, s := range []api.Spot{far, base, {X: 1189, Y: 384}} {
				checkAsk(t, s, base, text, asked(s, base, text))
				checkAsk(t, base, s, text, asked(base, s, text))
			}
		}
	}
}

func checkWrongAsk(t *testing.T, r, key api.Spot, text string, want api.Errno) {
	t.Helper()
	if got, err := Ask(r, key, text); got != 0 || plain.Told(err) != want {
		t.Errorf("Ask(%v, %v) of %d bytes is %d, %v, want %v", r, key, len(text), got, err, want)
	}
}

func TestAskOfTooMuch(t *testing.T) {
	out, off := api.Spot{X: -1}, api.Spot{Y: 1}
	for _, text := range overTexts() {
		// Told ahead of what is wrong with r, with key, with both.
		for _, r := range []api.Spot{far, base, out, off} {
			for _, key := range []api.Spot{far, base, out, off} {
				checkWrongAsk(t, r, key, text, api.ErrFull)
			}
		}
	}
}

func TestAskTellsWhatIsWrong(t *testing.T) {
	for _, a := range wrongs() {
		for _, right := range []api.Spot{far, flat, base} {
			for _, text := range []string{"", "pay 5", full} {
				checkWrongAsk(t, a.s, right, text, a.want)
				checkWrongAsk(t, right, a.s, text, a.want)
			}
		}
		for _, b := range wrongs() {
			checkWrongAsk(t, a.s, b.s, "pay 5", a.want)
		}
	}
}

func checkSign(t *testing.T, x, k int, text string, want api.Seal) {
	t.Helper()
	if got, err := Sign(x, k, text); got != want || err != nil {
		t.Errorf("Sign(%d, %d, %q) is %v, %v, want %v", x, k, text, got, err, want)
	}
}

func TestSignByHand(t *testing.T) {
	cases := []struct {
		x, k int
		text string
		want api.Seal
	}{
		{1, 1, "", api.Seal{R: base, S: 20}},
		{2, 77, "a", api.Seal{R: api.Spot{X: 1742, Y: 2049}, S: 472}},
		{1012, 1, "pay 5", api.Seal{R: base, S: 264}},
		{1, 1012, "pay 6", api.Seal{R: api.Spot{X: 1189, Y: 384}, S: 401}},
		{1012, 1012, full, api.Seal{R: api.Spot{X: 1189, Y: 384}, S: 547}},
		{506, 507, bright, api.Seal{R: api.Spot{X: 1521, Y: 2449}, S: 431}},
		{29, 300, euros, api.Seal{R: api.Spot{X: 607, Y: 1325}, S: 186}},
		{658, 4, "\x00", api.Seal{R: api.Spot{X: 2415, Y: 3955}, S: 836}},
		{658, 4, "", api.Seal{R: api.Spot{X: 2415, Y: 3955}, S: 243}},
		// S is 0, and Q - 1.
		{2, 114, "pay 5", api.Seal{R: api.Spot{X: 1919, Y: 1317}, S: 0}},
		{1, 313, "pay 5", api.Seal{R: api.Spot{X: 653, Y: 2850}, S: 1012}},
		// What is asked is 0, so that S is k.
		{1, 151, "pay 5", api.Seal{R: api.Spot{X: 632, Y: 589}, S: 151}},
	}
	for _, c := range cases {
		// What comes of the same is the same each time.
		for range 2 {
			checkSign(t, c.x, c.k, c.text, c.want)
		}
		checkVerify(t, mustKey(t, c.x), c.text, c.want, true)
	}
}

// signed is the seal by the words of the document.
func (w world) signed(x, k int, text string) api.Seal {
	r := w.times(k)
	return api.Seal{R: r, S: (k + asked(r, w.times(x), text)*x) % 1013}
}

func TestSignOfEachSecret(t *testing.T) {
	w := newWorld(t)
	for n := 1; n < api.Q; n++ {
		for _, e := range edges() {
			checkSign(t, n, e, "pay 5", w.signed(n, e, "pay 5"))
			checkSign(t, e, n, full, w.signed(e, n, full))
		}
	}
	for _, text := range texts() {
		for _, x := range edges() {
			for _, k := range edges() {
				checkSign(t, x, k, text, w.signed(x, k, text))
			}
		}
	}
}

func checkWrongSign(t *testing.T, x, k int, text string, want api.Errno) {
	t.Helper()
	if got, err := Sign(x, k, text); got != (api.Seal{}) || plain.Told(err) != want {
		t.Errorf("Sign(%d, %d) of %d bytes is %v, %v, want %v", x, k, len(text), got, err, want)
	}
}

func TestSignTellsWhatIsWrong(t *testing.T) {
	for _, n := range outside() {
		// Told ahead of a text that is too much.
		for _, text := range []string{"", "pay 5", full, over} {
			for _, e := range edges() {
				checkWrongSign(t, n, e, text, api.ErrRange)
				checkWrongSign(t, e, n, text, api.ErrRange)
			}
			for _, m := range outside() {
				checkWrongSign(t, n, m, text, api.ErrRange)
			}
		}
	}
	for _, text := range overTexts() {
		for _, e := range edges() {
			checkWrongSign(t, e, 1, text, api.ErrFull)
			checkWrongSign(t, 1012, e, text, api.ErrFull)
		}
	}
}

func mustKey(t *testing.T, x int) api.Spot {
	t.Helper()
	key, err := Key(x)
	if err != nil {
		t.Fatalf("Key(%d): %v", x, err)
	}
	return key
}

func checkVerify(t *testing.T, key api.Spot, text string, s api.Seal, want bool) {
	t.Helper()
	if got, err := Verify(key, text, s); got != want || err != nil {
		t.Errorf("Verify(%v, %q, %v) is %v, %v, want %v", key, text, s, got, err, want)
	}
}

func TestVerifyByHand(t *testing.T) {
	cases := []struct {
		key api.Spot
		s   api.Seal
	}{
		// A key that is Far, an R that is, and both.
		{far, api.Seal{R: far, S: 0}},
		{far, api.Seal{R: base, S: 1}},
		{api.Spot{X: 1710, Y: 1841}, api.Seal{R: far, S: 440}},
		// Keys that are on the curve but do not count, each with an R that does not either.
		{flat, api.Seal{R: flat, S: 0}},
		{flat, api.Seal{R: api.Spot{X: 24, Y: 1500}, S: 573}},
		{api.Spot{X: 4050, Y: 90}, api.Seal{R: api.Spot{X: 10, Y: 1779}, S: 513}},
		{api.Spot{X: 3180, Y: 1220}, api.Seal{R: flat, S: 988}},
		{api.Spot{X: 107, Y: 3793}, api.Seal{R: api.Spot{X: 17, Y: 3499}, S: 133}},
		// And with one that does.
		{flat, api.Seal{R: api.Spot{X: 5, Y: 777}, S: 416}},
		{api.Spot{X: 4050, Y: 90}, api.Seal{R: api.Spot{X: 33, Y: 3943}, S: 579}},
		{api.Spot{X: 3180, Y: 1220}, api.Seal{R: api.Spot{X: 38, Y: 3931}, S: 478}},
		{api.Spot{X: 107, Y: 3793}, api.Seal{R: api.Spot{X: 5, Y: 3274}, S: 926}},
	}
	for _, c := range cases {
		checkVerify(t, c.key, "pay 5", c.s, true)
		checkVerify(t, c.key, "pay 5", api.Seal{R: c.s.R, S: (c.s.S + 1) % api.Q}, false)
	}
}

// What is sealed is right, and with another number it is not: of all numbers, none but S does.
func TestVerifyOfWhatIsSealed(t *testing.T) {
	for _, x := range edges() {
		key := mustKey(t, x)
		for _, k := range []int{1, 507, 1012} {
			for _, text := range []string{"", "pay 5", full} {
				seal, err := Sign(x, k, text)
				if err != nil {
					t.Fatalf("Sign(%d, %d, %q): %v", x, k, text, err)
				}
				for s := range api.Q {
					checkVerify(t, key, text, api.Seal{R: seal.R, S: s}, s == seal.S)
				}
			}
		}
	}
}

func TestVerifyOfEachSecret(t *testing.T) {
	for n := 1; n < api.Q; n++ {
		for k, text := range texts() {
			seal, err := Sign(n, 1+n*k*k%1012, text)
			if err != nil {
				t.Fatalf("Sign of %d and %q: %v", n, text, err)
			}
			checkVerify(t, mustKey(t, n), text, seal, true)
		}
	}
}

func TestVerifyOfAnotherTextKeyOrSpot(t *testing.T) {
	seal, key := api.Seal{R: api.Spot{X: 607, Y: 1325}, S: 186}, api.Spot{X: 1710, Y: 1841}
	checkVerify(t, key, euros, seal, true)
	for _, text := range []string{"", "a", full, euros[:59], euros[:57], euros[1:], euros[:59] + "\xad", "\x00" + euros[1:]} {
		checkVerify(t, key, text, seal, false)
	}
	for _, other := range []api.Spot{far, flat, base, {X: 1710, Y: 2210}, {X: 1521, Y: 1602}, seal.R} {
		checkVerify(t, other, euros, seal, false)
	}
	for _, other := range []api.Spot{far, flat, base, {X: 607, Y: 2726}, {X: 1521, Y: 1602}, key} {
		checkVerify(t, key, euros, api.Seal{R: other, S: seal.S}, false)
	}
}

// A seal of all others may do by luck: the places of the spots tell just which.
func TestVerifyIsToldByPlaces(t *testing.T) {
	w := newWorld(t)
	for _, key := range w.some(241) {
		for _, r := range w.some(67) {
			for _, text := range []string{"", "pay 5", full} {
				for _, s := range []int{0, 1, 2, 506, 1011, 1012} {
					seal := api.Seal{R: r, S: s}
					checkVerify(t, key, text, seal, w.right(key, text, seal))
				}
			}
		}
	}
}

func TestVerifyOfAllKeysAndAllSpots(t *testing.T) {
	w := newWorld(t)
	seal, key := w.signed(29, 300, "pay 5"), w.times(29)
	for _, s := range w.row {
		checkVerify(t, s, "pay 5", seal, w.right(s, "pay 5", seal))
		other := api.Seal{R: s, S: seal.S}
		checkVerify(t, key, "pay 5", other, w.right(key, "pay 5", other))
	}
}

// Of each key and R there is one S that does, if what they come to counts, and else none.
func TestVerifyFindsTheNumberThatDoes(t *testing.T) {
	w := newWorld(t)
	for _, key := range w.some(1009) {
		for _, r := range w.some(577) {
			many := 0
			for s := range api.Q {
				seal := api.Seal{R: r, S: s}
				want := w.right(key, "a", seal)
				checkVerify(t, key, "a", seal, want)
				if want {
					many++
				}
			}
			sum := w.row[(w.at[r]+asked(r, key, "a")*w.at[key])%api.Whole]
			counts := w.at[sum]%4 == 0
			if (many == 1) != counts || many > 1 {
				t.Errorf("of %v and %v %d numbers do", key, r, many)
			}
		}
	}
}

func checkWrongVerify(t *testing.T, key api.Spot, text string, s api.Seal, want api.Errno) {
	t.Helper()
	if got, err := Verify(key, text, s); got || plain.Told(err) != want {
		t.Errorf("Verify(%v, %d bytes, %v) is %v, %v, want %v", key, len(text), s, got, err, want)
	}
}

// beyond are numbers that S may not be, some of which are as good modulo Q.
func beyond(s int) []int {
	return []int{-1, -1012, -1013, 1013, 1014, 4052, s - 1013, s + 1013, s - 4052, s + 4052, s + 1013<<40, 1 << 62, math.MaxInt, math.MinInt}
}

func TestVerifyOfANumberOutOfRange(t *testing.T) {
	for _, text := range texts() {
		seal, err := Sign(29, 300, text)
		if err != nil {
			t.Fatalf("Sign of %q: %v", text, err)
		}
		for _, s := range beyond(seal.S) {
			for _, key := range []api.Spot{{X: 1710, Y: 1841}, far, flat} {
				checkWrongVerify(t, key, text, api.Seal{R: seal.R, S: s}, api.ErrRange)
				checkWrongVerify(t, key, text, api.Seal{R: far, S: s}, api.ErrRange)
			}
		}
	}
}

func TestVerifyTellsWhatIsWrong(t *testing.T) {
	for _, a := range wrongs() {
		for _, right := range []api.Spot{far, flat, base} {
			for _, s := range []int{0, 1, 1012, 1013, -1, math.MinInt} {
				// Spots are told ahead of S.
				checkWrongVerify(t, a.s, "pay 5", api.Seal{R: right, S: s}, a.want)
				checkWrongVerify(t, right, "pay 5", api.Seal{R: a.s, S: s}, a.want)
			}
		}
		// The key is told ahead of R.
		for _, b := range wrongs() {
			checkWrongVerify(t, a.s, "pay 5", api.Seal{R: b.s}, a.want)
			checkWrongVerify(t, a.s, full, api.Seal{R: b.s, S: -1}, a.want)
		}
	}
}

func TestVerifyOfTooMuch(t *testing.T) {
	spots := []api.Spot{far, flat, base, {X: -1}, {Y: 1}}
	for _, text := range overTexts() {
		// Told ahead of whatever is wrong with the key, with R, with S.
		for _, key := range spots {
			for _, r := range spots {
				for _, s := range []int{0, 1, 1012, 1013, -1} {
					checkWrongVerify(t, key, text, api.Seal{R: r, S: s}, api.ErrFull)
				}
			}
		}
	}
}

func TestCheckTellsWhatVerifyTells(t *testing.T) {
	spots := []api.Spot{far, flat, base, {X: -1}, {X: 1, Far: true}, {Y: 1}}
	for _, text := range []string{"", "pay 5", full, over} {
		for _, key := range spots {
			for _, r := range spots {
				for _, s := range []int{0, 1, 1012, 1013, -1, math.MaxInt, math.MinInt} {
					seal := api.Seal{R: r, S: s}
					_, want := Verify(key, text, seal)
					if got := Check(key, text, seal); plain.Told(got) != plain.Told(want) {
						t.Errorf("Check(%v, %d bytes, %v) is %v, want %v", key, len(text), seal, got, want)
					}
				}
			}
		}
	}
}

func TestAnsweredIsToldByPlaces(t *testing.T) {
	w := newWorld(t)
	for _, key := range w.some(241) {
		for _, r := range w.some(67) {
			for _, text := range []string{"", "pay 5", full} {
				want := w.row[(w.at[r]+asked(r, key, text)*w.at[key])%api.Whole]
				if got, err := Answered(key, text, r); got != want || err != nil {
					t.Errorf("Answered(%v, %q, %v) is %v, %v, want %v", key, text, r, got, err, want)
				}
			}
		}
	}
}

func TestAnsweredTellsWhatAskTells(t *testing.T) {
	spots := []api.Spot{far, base, {X: -1}, {X: 1, Far: true}, {Y: 1}}
	for _, text := range []string{"", full, over} {
		for _, key := range spots {
			for _, r := range spots {
				_, want := Ask(r, key, text)
				got, err := Answered(key, text, r)
				if plain.Told(err) != plain.Told(want) || want != nil && got != (api.Spot{}) {
					t.Errorf("Answered(%v, %d bytes, %v) is %v, %v, want %v", key, len(text), r, got, err, want)
				}
			}
		}
	}
}
