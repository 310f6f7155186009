package group

import (
	"math"
	"slices"
	"strings"
	"testing"

	"pairstone/api"
	"pairstone/curve"
	"pairstone/plain"
	"pairstone/seal"
)

var (
	far = api.Spot{Far: true}
	// flat has Y 0: twice it is Far, so that it does not count.
	flat  = api.Spot{}
	base  = api.Spot{X: 1189, Y: 3667}
	minus = api.Spot{X: 1189, Y: 384}
	// four, twice and whole are on the curve but do not count: their orders are 4, twice Q and Whole.
	four  = api.Spot{X: 4050, Y: 90}
	twice = api.Spot{X: 3180, Y: 1220}
	whole = api.Spot{X: 107, Y: 3793}
	// out is out of range, and off is beside the curve.
	out = api.Spot{X: -1}
	off = api.Spot{Y: 1}
)

// The texts at the edge of what may be: letters of one byte, and of three.
var (
	full   = strings.Repeat("x", 60)
	over   = strings.Repeat("x", 61)
	euros  = strings.Repeat("\xe2\x82\xac", 20)
	bright = strings.Repeat("\xff", 60)
)

func ordinary() []string {
	return []string{"", "a", "pay 5", "pay 6", "\x00", "\x00\x00", "\xff", full[1:], full, euros, bright}
}

// overTexts are more bytes than may be, also where they are fewer letters, or so many that a number of one byte goes round.
func overTexts() []string {
	return []string{over, strings.Repeat("\xc3\xa9", 31), euros + "\x00", bright + "a", strings.Repeat("x", 120), strings.Repeat("x", 256), strings.Repeat("x", 256+60), strings.Repeat("\x00", 1<<20)}
}

// outside are numbers that are no secret, some of which are one modulo Q, or in their lower bits.
func outside() []int {
	return []int{0, -1, -2, -1012, -1013, -1014, 1013, 1014, 1015, 2025, 2026, 4051, 4052, 4053, 1 << 16, 1 << 32, 1<<32 + 1, 1 << 62, math.MaxInt, math.MinInt, math.MinInt + 1}
}

// edges are numbers that are secrets: the least, the greatest, some between, and 910, whose key alone has the coefficient 0.
func edges() []int { return []int{1, 2, 3, 29, 506, 507, 910, 1011, 1012} }

// tooMany are more than may be, also where a number of one or two bytes goes round.
func tooMany() []int { return []int{13, 14, 24, 25, 255, 256, 257, 256 + 12, 1 << 16, 1<<16 + 3} }

// beside has spots of the curve that do not count, one of each order: 2, 4, twice Q and Whole.
func beside() []api.Spot { return []api.Spot{flat, four, twice, whole} }

// world has all spots in a row, each as so many times the first one of it: sums of spots are those of their places, modulo Whole.
type world struct {
	row []api.Spot
	at  map[api.Spot]int
}

func newWorld(t *testing.T) world {
	t.Helper()
	w := world{at: map[api.Spot]int{}}
	for s := far; len(w.row) < 4052; {
		w.at[s] = len(w.row)
		w.row = append(w.row, s)
		next, err := curve.Add(s, whole)
		if err != nil {
			t.Fatalf("Add(%v, %v): %v", s, whole, err)
		}
		s = next
	}
	if len(w.at) != 4052 {
		t.Fatalf("%v comes by %d spots, want 4052", whole, len(w.at))
	}
	return w
}

// times is n times Base, n from 0 on.
func (w world) times(n int) api.Spot { return w.row[n*w.at[base]%4052] }

// keys of secrets.
func (w world) keys(xs []int) (l []api.Spot) {
	for _, x := range xs {
		l = append(l, w.times(x))
	}
	return l
}

// joint is Joint of right spots, told by their places in the row.
func (w world) joint(keys []api.Spot) api.Spot {
	sum := 0
	for k, c := range coefsOf(keys) {
		sum += c * w.at[keys[k]]
	}
	return w.row[sum%4052]
}

// signed is the seal by the words of the document.
func (w world) signed(xs, ks []int, text string) api.Seal {
	keys, k, x := w.keys(xs), 0, 0
	for place, c := range coefsOf(keys) {
		k, x = k+ks[place], x+c*xs[place]
	}
	r := w.times(k)
	return api.Seal{R: r, S: (k + number(packed(r), packed(w.joint(keys)), []byte(text))*x) % 1013}
}

// right tells by places alone whether S times Base is R and Ask times the key.
func (w world) right(key api.Spot, text string, s api.Seal) bool {
	c := number(packed(s.R), packed(key), []byte(text))
	return (s.S*w.at[base]-w.at[s.R]-c*w.at[key])%4052 == 0
}

// packed has the bytes of a spot, told without package bytes.
func packed(s api.Spot) []byte {
	switch {
	case s.Far:
		return []byte{0}
	case s.Y <= (4051-s.Y)%4051:
		return []byte{1, byte(s.X / 256), byte(s.X % 256)}
	}
	return []byte{2, byte(s.X / 256), byte(s.X % 256)}
}

// number of bytes, one part behind the other, told without package hash.
func number(parts ...[]byte) int {
	n := 5
	for _, part := range parts {
		for _, b := range part {
			n = (n*263 + int(b) + 1) % 1000003
		}
	}
	return n % 1013
}

// coefsOf is Coefs of right spots, told without packages bytes and hash.
func coefsOf(keys []api.Spot) (l []int) {
	all := []byte{byte(len(keys))}
	for _, s := range keys {
		all = append(all, packed(s)...)
	}
	for _, s := range keys {
		l = append(l, number(all, packed(s)))
	}
	return l
}

// pick is a row of numbers that look as if by chance, the same ones each time.
type pick int

func (p *pick) below(n int) int {
	*p = (*p*1103515245 + 12345) & (1<<31 - 1)
	return int(*p>>8) % n
}

func (p *pick) secrets(many int) (l []int) {
	for range many {
		l = append(l, 1+p.below(1012))
	}
	return l
}

func (p *pick) spots(w world, many int) (l []api.Spot) {
	for range many {
		l = append(l, w.row[p.below(4052)])
	}
	return l
}

// shuffle both lists in the same way.
func (p *pick) shuffle(xs, ks []int) {
	for k := range xs {
		other := k + p.below(len(xs)-k)
		xs[k], xs[other] = xs[other], xs[k]
		ks[k], ks[other] = ks[other], ks[k]
	}
}

// ends are the first place of a list of so many, one in the middle, and the last.
func ends(many int) []int { return []int{0, many / 2, many - 1} }

func repeated[T any](s T, many int) []T { return slices.Repeat([]T{s}, many) }

// with is a list, but for another one at a place.
func with[T any](l []T, place int, other T) []T {
	l = slices.Clone(l)
	l[place] = other
	return l
}

// wrong is a spot, and what is told of it.
type wrong struct {
	s    api.Spot
	want api.Errno
}

// wrongs has spots that are none: out of range at each place, Far and somewhere, beside the curve.
func wrongs() (l []wrong) {
	for _, n := range []int{-1, -4051, 4051, 4052, 1 << 16, math.MaxInt, math.MinInt} {
		l = append(l,
			wrong{api.Spot{X: n}, api.ErrRange},
			wrong{api.Spot{Y: n}, api.ErrRange},
			wrong{api.Spot{X: n, Y: 3667}, api.ErrRange},
			wrong{api.Spot{X: 1189, Y: n}, api.ErrRange},
			wrong{api.Spot{X: n, Far: true}, api.ErrRange},
			wrong{api.Spot{Y: n, Far: true}, api.ErrRange},
		)
	}
	return append(l,
		wrong{api.Spot{X: 1189 + 4051, Y: 3667}, api.ErrRange},
		wrong{api.Spot{X: 1189, Y: 3667 - 4051}, api.ErrRange},
		wrong{api.Spot{X: 1, Far: true}, api.ErrRange},
		wrong{api.Spot{X: 1189, Y: 3667, Far: true}, api.ErrRange},
		wrong{api.Spot{X: 1189, Y: 3666}, api.ErrShape},
		wrong{api.Spot{X: 1189}, api.ErrShape},
		wrong{api.Spot{Y: 1}, api.ErrShape},
		wrong{api.Spot{X: 4050, Y: 4050}, api.ErrShape},
	)
}

func checkCoefs(t *testing.T, keys []api.Spot, want []int) {
	t.Helper()
	if got, err := Coefs(keys); !slices.Equal(got, want) || err != nil {
		t.Errorf("Coefs(%v) is %v, %v, want %v", keys, got, err, want)
	}
}

func checkJoint(t *testing.T, keys []api.Spot, want api.Spot) {
	t.Helper()
	if got, err := Joint(keys); got != want || err != nil {
		t.Errorf("Joint(%v) is %v, %v, want %v", keys, got, err, want)
	}
}

// checkKeys holds both against what the document's words come to.
func (w world) checkKeys(t *testing.T, keys []api.Spot) {
	t.Helper()
	checkCoefs(t, keys, coefsOf(keys))
	checkJoint(t, keys, w.joint(keys))
}

// failKeys sees that both tell the same of what is wrong.
func failKeys(t *testing.T, keys []api.Spot, want api.Errno) {
	t.Helper()
	shown := keys[:min(len(keys), 24)]
	if got, err := Coefs(keys); len(got) != 0 || plain.Told(err) != want {
		t.Errorf("Coefs of %d is %v, %v, want none, %v: %v", len(keys), got, err, want, shown)
	}
	if got, err := Joint(keys); got != (api.Spot{}) || plain.Told(err) != want {
		t.Errorf("Joint of %d is %v, %v, want %v: %v", len(keys), got, err, want, shown)
	}
}

func TestCoefsAndJointByHand(t *testing.T) {
	cases := []struct {
		keys  []api.Spot
		coefs []int
		joint api.Spot
	}{
		{[]api.Spot{base}, []int{796}, api.Spot{X: 3975, Y: 3948}},
		{[]api.Spot{minus}, []int{229}, api.Spot{X: 262, Y: 4000}},
		// Each hangs on all of them, and on their order; it may be 0.
		{[]api.Spot{base, minus}, []int{626, 341}, api.Spot{X: 3217, Y: 2330}},
		{[]api.Spot{minus, base}, []int{0, 285}, api.Spot{X: 3217, Y: 2330}},
		// One key several times.
		{[]api.Spot{base, base}, []int{908, 908}, api.Spot{X: 1265, Y: 409}},
		{[]api.Spot{base, base, base}, []int{322, 322, 322}, api.Spot{X: 1764, Y: 966}},
		{repeated(base, 12), repeated(297, 12), api.Spot{X: 4036, Y: 2734}},
		// What is far adds nothing, but the coefficients of the others hang on it.
		{[]api.Spot{far}, []int{342}, far},
		{[]api.Spot{far, far}, []int{491, 491}, far},
		{[]api.Spot{far, base}, []int{377, 450}, api.Spot{X: 3964, Y: 1593}},
		{[]api.Spot{base, far}, []int{80, 461}, api.Spot{X: 1653, Y: 3101}},
		{repeated(far, 12), repeated(922, 12), far},
		// What does not count is no fault.
		{[]api.Spot{flat}, []int{481}, flat},
		{[]api.Spot{four}, []int{85}, four},
		{[]api.Spot{twice}, []int{538}, api.Spot{X: 3080, Y: 3528}},
		{[]api.Spot{whole}, []int{825}, api.Spot{X: 867, Y: 1768}},
		{[]api.Spot{flat, base}, []int{32, 521}, api.Spot{X: 1857, Y: 2389}},
		{[]api.Spot{base, flat}, []int{69, 593}, api.Spot{X: 2676, Y: 1805}},
		{[]api.Spot{four, twice, whole}, []int{983, 92, 259}, api.Spot{X: 2624, Y: 2825}},
		{[]api.Spot{whole, twice, four}, []int{928, 761, 639}, api.Spot{X: 208, Y: 43}},
		{[]api.Spot{far, flat, four, twice, whole, base, minus}, []int{442, 622, 725, 847, 1, 98, 826}, api.Spot{X: 1366, Y: 211}},
		{repeated(flat, 12), repeated(69, 12), far},
	}
	for _, c := range cases {
		// What comes of the same is the same each time.
		for range 2 {
			checkCoefs(t, c.keys, c.coefs)
			checkJoint(t, c.keys, c.joint)
		}
	}
}

func TestCoefsAndJointOfNone(t *testing.T) {
	for _, keys := range [][]api.Spot{nil, {}} {
		checkCoefs(t, keys, nil)
		checkJoint(t, keys, far)
	}
}

func TestCoefsAndJointOfEachSpot(t *testing.T) {
	w := newWorld(t)
	for _, s := range w.row {
		w.checkKeys(t, []api.Spot{s})
		w.checkKeys(t, []api.Spot{s, base})
		w.checkKeys(t, []api.Spot{base, s})
		w.checkKeys(t, []api.Spot{s, s})
	}
}

func TestCoefsAndJointOfHowMany(t *testing.T) {
	w, p := newWorld(t), pick(1)
	for many := 1; many <= 12; many++ {
		for range 50 {
			w.checkKeys(t, p.spots(w, many))
			w.checkKeys(t, w.keys(p.secrets(many)))
		}
	}
}

// One of each kind at each place, among ordinary ones.
func TestCoefsAndJointOfOneKindAtEachPlace(t *testing.T) {
	w, p := newWorld(t), pick(2)
	for _, s := range append(beside(), far, base, minus) {
		for many := 1; many <= 12; many++ {
			keys := w.keys(p.secrets(many))
			for place := range many {
				w.checkKeys(t, with(keys, place, s))
				w.checkKeys(t, with(repeated(far, many), place, s))
				w.checkKeys(t, with(repeated(base, many), place, s))
			}
		}
	}
}

func TestCoefsOfOneKeySeveralTimesAreTheSame(t *testing.T) {
	w, p := newWorld(t), pick(3)
	for _, s := range append(p.spots(w, 20), far, base, flat, whole) {
		for many := 2; many <= 12; many++ {
			first := coefsOf(repeated(s, many))[0]
			checkCoefs(t, repeated(s, many), repeated(first, many))
			keys := p.spots(w, many)
			keys[0], keys[many-1] = s, s
			got, err := Coefs(keys)
			if err != nil || len(got) != many || got[0] != got[many-1] {
				t.Errorf("Coefs(%v) is %v, %v: the first and the last are alike", keys, got, err)
			}
			w.checkKeys(t, keys)
		}
	}
}

func TestCoefsAndJointInAnotherOrder(t *testing.T) {
	w, p := newWorld(t), pick(4)
	for many := 2; many <= 12; many++ {
		keys := p.spots(w, many)
		for range many {
			keys = append(keys[1:many:many], keys[0])
			w.checkKeys(t, keys)
		}
		slices.Reverse(keys)
		w.checkKeys(t, keys)
	}
}

// That there are too many is told ahead of what is wrong with one of them.
func TestCoefsAndJointTellTooManyFirst(t *testing.T) {
	w := newWorld(t)
	for _, many := range tooMany() {
		for _, s := range append(beside(), far, base) {
			keys := repeated(s, many)
			failKeys(t, keys, api.ErrFull)
			for _, place := range ends(many) {
				failKeys(t, with(keys, place, out), api.ErrFull)
				failKeys(t, with(keys, place, off), api.ErrFull)
			}
			w.checkKeys(t, keys[:12])
		}
		failKeys(t, repeated(out, many), api.ErrFull)
		failKeys(t, repeated(off, many), api.ErrFull)
	}
}

func TestCoefsAndJointTellOfAWrongKeyAtEachPlace(t *testing.T) {
	w, p := newWorld(t), pick(5)
	for _, a := range wrongs() {
		for many := 1; many <= 12; many++ {
			for _, keys := range [][]api.Spot{repeated(far, many), repeated(base, many), repeated(flat, many), p.spots(w, many)} {
				for place := range many {
					failKeys(t, with(keys, place, a.s), a.want)
				}
			}
		}
	}
}

func TestCoefsAndJointTellTheFirstKeyThatHasAFault(t *testing.T) {
	for _, a := range wrongs() {
		for _, b := range wrongs() {
			failKeys(t, []api.Spot{a.s, b.s}, a.want)
			failKeys(t, []api.Spot{base, a.s, flat, b.s, far}, a.want)
			failKeys(t, with(with(repeated(base, 12), 0, a.s), 11, b.s), a.want)
			failKeys(t, with(with(repeated(far, 12), 10, a.s), 11, b.s), a.want)
		}
	}
}

func checkSign(t *testing.T, xs, ks []int, text string, want api.Seal) {
	t.Helper()
	if got, err := Sign(xs, ks, text); got != want || err != nil {
		t.Errorf("Sign(%v, %v, %q) is %v, %v, want %v", xs, ks, text, got, err, want)
	}
}

func failSign(t *testing.T, xs, ks []int, text string, want api.Errno) {
	t.Helper()
	if got, err := Sign(xs, ks, text); got != (api.Seal{}) || plain.Told(err) != want {
		t.Errorf("Sign of %d and %d, %d bytes, is %v, %v, want %v: %v, %v", len(xs), len(ks), len(text), got, err, want, xs[:min(len(xs), 24)], ks[:min(len(ks), 24)])
	}
}

func checkVerify(t *testing.T, key api.Spot, text string, s api.Seal, want bool) {
	t.Helper()
	if got, err := seal.Verify(key, text, s); got != want || err != nil {
		t.Errorf("Verify(%v, %q, %v) is %v, %v, want %v", key, text, s, got, err, want)
	}
}

func TestSignByHand(t *testing.T) {
	cases := []struct {
		xs, ks []int
		text   string
		want   api.Seal
		joint  api.Spot
	}{
		{nil, nil, "", api.Seal{R: far}, far},
		{nil, nil, full, api.Seal{R: far}, far},
		{[]int{1}, []int{1}, "", api.Seal{R: base, S: 641}, api.Spot{X: 3975, Y: 3948}},
		{[]int{1}, []int{1012}, "pay 5", api.Seal{R: minus, S: 345}, api.Spot{X: 3975, Y: 3948}},
		{[]int{1012}, []int{1}, "pay 5", api.Seal{R: base, S: 658}, api.Spot{X: 262, Y: 4000}},
		{[]int{1012}, []int{1012}, full, api.Seal{R: minus, S: 55}, api.Spot{X: 262, Y: 4000}},
		{[]int{29}, []int{300}, "pay 5", api.Seal{R: api.Spot{X: 607, Y: 1325}, S: 1004}, api.Spot{X: 230, Y: 3203}},
		{[]int{29, 77}, []int{300, 5}, "pay 5", api.Seal{R: api.Spot{X: 2342, Y: 2370}, S: 495}, api.Spot{X: 236, Y: 421}},
		// Which k goes with which x does not matter, the order of the xs does.
		{[]int{77, 29}, []int{300, 5}, "pay 5", api.Seal{R: api.Spot{X: 2342, Y: 2370}, S: 323}, api.Spot{X: 1329, Y: 720}},
		{[]int{77, 29}, []int{5, 300}, "pay 5", api.Seal{R: api.Spot{X: 2342, Y: 2370}, S: 323}, api.Spot{X: 1329, Y: 720}},
		{[]int{29, 29}, []int{300, 300}, "pay 5", api.Seal{R: api.Spot{X: 230, Y: 848}, S: 283}, api.Spot{X: 1932, Y: 1791}},
		{[]int{1, 2, 3}, []int{4, 5, 6}, euros, api.Seal{R: api.Spot{X: 2311, Y: 875}, S: 658}, api.Spot{X: 2342, Y: 1681}},
		// The ks add up to 0, or to 0 twice, modulo Q.
		{[]int{1, 1012}, []int{1, 1012}, "pay 5", api.Seal{R: far, S: 621}, api.Spot{X: 3217, Y: 2330}},
		{[]int{506, 507, 1011}, []int{1012, 1012, 2}, bright, api.Seal{R: far, S: 705}, api.Spot{X: 1882, Y: 3621}},
		// As many as may be.
		{repeated(1012, 12), repeated(1012, 12), full, api.Seal{R: api.Spot{X: 2087, Y: 2105}, S: 442}, api.Spot{X: 1469, Y: 3258}},
		{repeated(1, 12), repeated(1, 12), "\x00", api.Seal{R: api.Spot{X: 2087, Y: 1946}, S: 169}, api.Spot{X: 4036, Y: 2734}},
		// S is 0, and Q - 1.
		{[]int{1}, []int{396}, "pay 5", api.Seal{R: api.Spot{X: 2396, Y: 35}}, api.Spot{X: 3975, Y: 3948}},
		{[]int{2}, []int{638}, "pay 5", api.Seal{R: api.Spot{X: 1512, Y: 1754}, S: 1012}, api.Spot{X: 1467, Y: 595}},
		// What is asked is 0, so that S is k.
		{[]int{3}, []int{5}, "pay 5", api.Seal{R: api.Spot{X: 1923, Y: 542}, S: 5}, api.Spot{X: 2133, Y: 3915}},
		// Joint is Far, so that S is what the ks add up to, whatever is asked.
		{[]int{910}, []int{300}, "pay 5", api.Seal{R: api.Spot{X: 607, Y: 1325}, S: 300}, far},
		{[]int{7, 41}, []int{300, 5}, "pay 5", api.Seal{R: api.Spot{X: 2342, Y: 2370}, S: 305}, far},
		// The coefficient is 1, so that it is as if 320 had signed alone.
		{[]int{320}, []int{300}, "pay 5", api.Seal{R: api.Spot{X: 607, Y: 1325}, S: 128}, api.Spot{X: 320, Y: 3015}},
	}
	for _, c := range cases {
		// What comes of the same is the same each time.
		for range 2 {
			checkSign(t, c.xs, c.ks, c.text, c.want)
		}
		checkVerify(t, c.joint, c.text, c.want, true)
	}
}

func TestSignOfNone(t *testing.T) {
	for _, xs := range [][]int{nil, {}} {
		for _, ks := range [][]int{nil, {}} {
			for _, text := range ordinary() {
				checkSign(t, xs, ks, text, api.Seal{R: far})
			}
			for _, text := range overTexts() {
				failSign(t, xs, ks, text, api.ErrFull)
			}
		}
	}
}

func TestSignOfEachSecret(t *testing.T) {
	w := newWorld(t)
	for n := 1; n <= 1012; n++ {
		for _, e := range edges() {
			for _, c := range [][2][]int{{{n}, {e}}, {{e}, {n}}, {{n, e}, {e, n}}, {{e, n}, {n, 1013 - n}}} {
				checkSign(t, c[0], c[1], "pay 5", w.signed(c[0], c[1], "pay 5"))
			}
		}
	}
}

func TestSignOfHowMany(t *testing.T) {
	w, p := newWorld(t), pick(6)
	for many := 1; many <= 12; many++ {
		for _, text := range ordinary() {
			xs, ks := p.secrets(many), p.secrets(many)
			checkSign(t, xs, ks, text, w.signed(xs, ks, text))
			for _, place := range ends(many) {
				for _, e := range edges() {
					other := with(xs, place, e)
					checkSign(t, other, ks, text, w.signed(other, ks, text))
					other = with(ks, place, e)
					checkSign(t, xs, other, text, w.signed(xs, other, text))
				}
			}
		}
		for _, x := range edges() {
			for _, k := range edges() {
				xs, ks := repeated(x, many), repeated(k, many)
				checkSign(t, xs, ks, full, w.signed(xs, ks, full))
			}
		}
	}
}

func TestSignOfEachLength(t *testing.T) {
	w, p := newWorld(t), pick(7)
	for n := range 61 {
		for _, text := range []string{full[:n], bright[:n], euros[:n], strings.Repeat("\x00", n)} {
			// The bound is of the text alone, however many sign.
			for _, many := range []int{1, 2, 12} {
				xs, ks := p.secrets(many), p.secrets(many)
				checkSign(t, xs, ks, text, w.signed(xs, ks, text))
			}
		}
	}
}

// Together they sign as one who has the sum of all coefficients times x, with the sum of all k.
func TestSignIsAsOfOneSecret(t *testing.T) {
	w, p := newWorld(t), pick(8)
	for many := 1; many <= 12; many++ {
		for range 40 {
			xs, ks := p.secrets(many), p.secrets(many)
			x, k := 0, 0
			for place, c := range coefsOf(w.keys(xs)) {
				x, k = (x+c*xs[place])%1013, (k+ks[place])%1013
			}
			if x == 0 || k == 0 {
				continue
			}
			want, err := seal.Sign(x, k, "pay 5")
			if err != nil {
				t.Fatalf("Sign(%d, %d): %v", x, k, err)
			}
			checkSign(t, xs, ks, "pay 5", want)
			checkJoint(t, w.keys(xs), w.times(x))
		}
	}
}

// That there are too many xs is told ahead of whatever else is wrong, also of ks that are not as many.
func TestSignTellsTooManyFirst(t *testing.T) {
	for _, many := range tooMany() {
		for _, other := range []int{0, 1, 11, 12, 13, many - 1, many, many + 1} {
			for _, text := range []string{"", full, over} {
				failSign(t, repeated(1, many), repeated(1, other), text, api.ErrFull)
				failSign(t, repeated(0, many), repeated(1, other), text, api.ErrFull)
				failSign(t, repeated(1, many), repeated(1013, other), text, api.ErrFull)
				failSign(t, repeated(-1, many), repeated(-1, other), text, api.ErrFull)
			}
		}
	}
}

func TestSignTellsNotAsManyAheadOfTheRest(t *testing.T) {
	for many := range 13 {
		for _, other := range append(tooMany(), 0, 1, 2, 3, 4, 5, 6, 7, 8, 9, 10, 11, 12) {
			if other == many {
				continue
			}
			for _, text := range []string{"", "pay 5", full, over} {
				failSign(t, repeated(1, many), repeated(1, other), text, api.ErrShape)
				failSign(t, repeated(0, many), repeated(1, other), text, api.ErrShape)
				failSign(t, repeated(1, many), repeated(1013, other), text, api.ErrShape)
				failSign(t, repeated(-1, many), repeated(-1, other), text, api.ErrShape)
			}
		}
	}
}

func TestSignTellsOfAWrongNumberAtEachPlace(t *testing.T) {
	p := pick(9)
	for _, n := range outside() {
		for many := 1; many <= 12; many++ {
			xs, ks := p.secrets(many), p.secrets(many)
			for place := range many {
				// Told ahead of a text that is too long.
				for _, text := range []string{"", "pay 5", full, over} {
					failSign(t, with(xs, place, n), ks, text, api.ErrRange)
					failSign(t, xs, with(ks, place, n), text, api.ErrRange)
					failSign(t, with(xs, place, n), with(ks, many-1-place, n), text, api.ErrRange)
				}
			}
			failSign(t, repeated(n, many), repeated(n, many), "pay 5", api.ErrRange)
		}
		// Numbers that come to one that may be, when they are added up, are wrong all the same.
		failSign(t, []int{1, n}, []int{1, 1}, "pay 5", api.ErrRange)
		failSign(t, []int{1, 1}, []int{1, n}, "pay 5", api.ErrRange)
	}
}

func TestSignTellsATextThatIsTooLongLast(t *testing.T) {
	p := pick(10)
	for _, text := range overTexts() {
		for many := range 13 {
			failSign(t, p.secrets(many), p.secrets(many), text, api.ErrFull)
			failSign(t, repeated(1, many), repeated(1012, many), text, api.ErrFull)
		}
		for _, e := range edges() {
			failSign(t, []int{e}, []int{1013 - e}, text, api.ErrFull)
		}
	}
}

// Lists are read up to their length, and nothing is written into them, nor behind them.
func TestListsAreLeftAlone(t *testing.T) {
	w := newWorld(t)
	keys := append(repeated(base, 11), flat, out, off)
	xs, ks := append(repeated(29, 12), 0, 1013), append(repeated(300, 12), -1, 1)
	keptKeys, keptXs, keptKs := slices.Clone(keys), slices.Clone(xs), slices.Clone(ks)
	for many := range 15 {
		Coefs(keys[:many])
		Coefs(keys[many:])
		Joint(keys[:many])
		Joint(keys[many:])
		for other := range 15 {
			Sign(xs[:many], ks[:other], "pay 5")
			Sign(xs[many:], ks[other:], full)
			Sign(xs[:many], ks[:other], over)
		}
	}
	w.checkKeys(t, keys[:12])
	w.checkKeys(t, keys[:0])
	failKeys(t, keys[11:13], api.ErrRange)
	checkSign(t, xs[:12], ks[:12], "pay 5", w.signed(xs[:12], ks[:12], "pay 5"))
	checkSign(t, xs[:0], ks[:0], "pay 5", api.Seal{R: far})
	failSign(t, xs[11:13], ks[10:12], "pay 5", api.ErrRange)
	if !slices.Equal(keys, keptKeys) || !slices.Equal(xs, keptXs) || !slices.Equal(ks, keptKs) {
		t.Errorf("lists are %v, %v and %v, were %v, %v and %v", keys, xs, ks, keptKeys, keptXs, keptKs)
	}
}

func TestAnswersAreFresh(t *testing.T) {
	keys, want := []api.Spot{base, far}, []int{80, 461}
	first, _ := Coefs(keys)
	second, _ := Coefs(keys)
	first[0], first[1] = -1, -1
	_ = append(first[:1], -2)
	if !slices.Equal(second, want) {
		t.Errorf("two answers share memory: %v, want %v", second, want)
	}
	checkCoefs(t, keys, want)
	checkJoint(t, keys, api.Spot{X: 1653, Y: 3101})
	// Nothing of a list is kept: with other spots in it the answer is another one.
	keys[0], keys[1] = far, base
	checkCoefs(t, keys, []int{377, 450})
	checkJoint(t, keys, api.Spot{X: 3964, Y: 1593})
	if !slices.Equal(second, want) {
		t.Errorf("an answer hangs on the list: %v, want %v", second, want)
	}
	xs, ks := []int{29, 77}, []int{300, 5}
	checkSign(t, xs, ks, "pay 5", api.Seal{R: api.Spot{X: 2342, Y: 2370}, S: 495})
	xs[0], xs[1] = 77, 29
	checkSign(t, xs, ks, "pay 5", api.Seal{R: api.Spot{X: 2342, Y: 2370}, S: 323})
}

// signedBy is what these of them signed together, and the joint key of their keys.
func signedBy(t *testing.T, xs, ks []int, text string) (api.Seal, api.Spot) {
	t.Helper()
	s, err := Sign(xs, ks, text)
	if err != nil {
		t.Fatalf("Sign(%v, %v, %q): %v", xs, ks, text, err)
	}
	var keys []api.Spot
	for _, x := range xs {
		key, err := seal.Key(x)
		if err != nil {
			t.Fatalf("Key(%d): %v", x, err)
		}
		keys = append(keys, key)
	}
	joint, err := Joint(keys)
	if err != nil {
		t.Fatalf("Joint(%v): %v", keys, err)
	}
	return s, joint
}

// Of twelve any may sign, in whatever order, and it is right; with another number it is not.
func TestWhoeverSignedTogetherItIsRight(t *testing.T) {
	p := pick(11)
	all, secrets := []int{1, 1012, 29, 29, 910, 506, 507, 7, 41, 2, 1011, 320}, p.secrets(12)
	for choice := range 1 << 12 {
		var xs, ks []int
		for k := range 12 {
			if choice>>k&1 == 1 {
				xs, ks = append(xs, all[k]), append(ks, secrets[k])
			}
		}
		p.shuffle(xs, ks)
		s, joint := signedBy(t, xs, ks, "pay 5")
		checkVerify(t, joint, "pay 5", s, true)
		other := api.Seal{R: s.R, S: (s.S + 1 + p.below(1012)) % 1013}
		checkVerify(t, joint, "pay 5", other, false)
	}
}

func TestOfAllNumbersNoneButSIsRight(t *testing.T) {
	p := pick(12)
	for many := range 13 {
		for _, text := range []string{"", "pay 5", full} {
			signed, joint := signedBy(t, p.secrets(many), p.secrets(many), text)
			for s := range 1013 {
				checkVerify(t, joint, text, api.Seal{R: signed.R, S: s}, s == signed.S)
			}
		}
	}
}

// Each order has a joint key of its own, by which what was signed in that order is right.
func TestEachOrderIsRightByItsOwnKey(t *testing.T) {
	w, p := newWorld(t), pick(13)
	for many := 2; many <= 12; many++ {
		xs, ks := p.secrets(many), p.secrets(many)
		first, key := signedBy(t, xs, ks, "pay 6")
		for range 30 {
			p.shuffle(xs, ks)
			s, joint := signedBy(t, xs, ks, "pay 6")
			checkVerify(t, joint, "pay 6", s, true)
			// By the key of another order it may be right by luck alone: the places of the spots tell.
			checkVerify(t, joint, "pay 6", first, w.right(joint, "pay 6", first))
			checkVerify(t, key, "pay 6", s, w.right(key, "pay 6", s))
		}
	}
}

func TestAnotherTextOrOneWhoIsMissingIsNotRight(t *testing.T) {
	w := newWorld(t)
	xs, ks := []int{29, 77, 500}, []int{300, 5, 1000}
	s, joint := signedBy(t, xs, ks, "pay 5")
	checkVerify(t, joint, "pay 5", s, true)
	for _, text := range []string{"", "a", "pay 6", "pay 5 ", "Pay 5", full} {
		checkVerify(t, joint, text, s, false)
	}
	plainSum := w.times(29 + 77 + 500)
	for _, key := range []api.Spot{w.times(29), w.times(77), w.times(500), plainSum, far, base} {
		checkVerify(t, key, "pay 5", s, false)
	}
	for place := range xs {
		_, other := signedBy(t, slices.Delete(slices.Clone(xs), place, place+1), []int{1, 1}, "pay 5")
		checkVerify(t, other, "pay 5", s, false)
	}
}
