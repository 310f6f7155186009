package equal

import (
	"math"
	"testing"

	"pairstone/api"
	"pairstone/curve"
	"pairstone/plain"
)

var (
	far = api.Spot{Far: true}
	// flat has Y 0: twice it is Far, so that it does not count.
	flat = api.Spot{}
	base = api.Spot{X: 1189, Y: 3667}
	// second and pay are others that count.
	second = api.Spot{X: 607, Y: 1325}
	pay    = api.Spot{X: 812, Y: 1038}
	// four, twice and whole are on the curve but do not count: their orders are 4, twice Q and Whole.
	four  = api.Spot{X: 4050, Y: 90}
	twice = api.Spot{X: 3180, Y: 1220}
	whole = api.Spot{X: 107, Y: 3793}
	// off is beside the curve, and wide has a number out of range.
	off  = api.Spot{X: 1189, Y: 3666}
	wide = api.Spot{X: 4051}
)

// outside are numbers that are not from 0 to Q - 1, some of which are one modulo Q, or in their lower bits.
func outside() []int {
	return []int{-1, -2, -1012, -1013, -1014, 1013, 1014, 2025, 2026, 4051, 4052, 4053, 1 << 16, 1 << 32, 1<<32 + 1, 1 << 62, math.MaxInt, math.MinInt, math.MinInt + 1}
}

// noSecrets are outside, and 0.
func noSecrets() []int { return append(outside(), 0) }

// edges are numbers that may be secrets: the least, the greatest, and some between.
func edges() []int { return []int{1, 2, 29, 506, 507, 1011, 1012} }

// counting has spots that count.
func counting() []api.Spot { return []api.Spot{far, base, {X: 1189, Y: 384}, second, pay} }

// beside has spots of the curve that do not count, one of each order: 2, 4, twice Q and Whole.
func beside() []api.Spot { return []api.Spot{flat, four, twice, whole} }

// wrong is a spot, and what is told of it.
type wrong struct {
	s    api.Spot
	want api.Errno
}

// wrongs has spots that are none: out of range at each place, Far and somewhere, beside the curve.
func wrongs() (l []wrong) {
	for _, n := range []int{-1, -4051, 4051, 4052, 1 << 16, math.MaxInt, math.MinInt} {
		l = append(l,
			wrong{api.Spot{X: n}, api.ErrRange},
			wrong{api.Spot{Y: n}, api.ErrRange},
			wrong{api.Spot{X: n, Y: 3667}, api.ErrRange},
			wrong{api.Spot{X: 1189, Y: n}, api.ErrRange},
			wrong{api.Spot{X: n, Far: true}, api.ErrRange},
			wrong{api.Spot{Y: n, Far: true}, api.ErrRange},
		)
	}
	return append(l,
		wrong{api.Spot{X: 1189 + 4051, Y: 3667}, api.ErrRange},
		wrong{api.Spot{X: 1189, Y: 3667 - 4051}, api.ErrRange},
		wrong{api.Spot{X: 1, Far: true}, api.ErrRange},
		wrong{api.Spot{X: 1189, Y: 3667, Far: true}, api.ErrRange},
		wrong{off, api.ErrShape},
		wrong{api.Spot{X: 1189}, api.ErrShape},
		wrong{api.Spot{Y: 1}, api.ErrShape},
		wrong{api.Spot{X: 4050, Y: 4050}, api.ErrShape},
	)
}

// kinds has one of each kind of spot, right ones with OK.
func kinds() []wrong {
	return []wrong{
		{far, api.OK}, {base, api.OK}, {whole, api.OK},
		{wide, api.ErrRange}, {api.Spot{X: 1, Far: true}, api.ErrRange}, {off, api.ErrShape},
	}
}

// firstOf is what is told of the first that has a fault.
func firstOf(l ...wrong) api.Errno {
	for _, a := range l {
		if a.want != api.OK {
			return a.want
		}
	}
	return api.OK
}

// world has all spots in a row, each as so many times the first one of it: sums of spots are those of their places, modulo Whole.
type world struct {
	row []api.Spot
	at  map[api.Spot]int
}

func newWorld(t *testing.T) world {
	t.Helper()
	w := world{at: map[api.Spot]int{}}
	for s := far; len(w.row) < 4052; {
		w.at[s] = len(w.row)
		w.row = append(w.row, s)
		next, err := curve.Add(s, whole)
		if err != nil {
			t.Fatalf("Add(%v, %v): %v", s, whole, err)
		}
		s = next
	}
	if len(w.at) != 4052 {
		t.Fatalf("%v comes by %d spots, want 4052", whole, len(w.at))
	}
	return w
}

// times is n times a spot, n from 0 on.
func (w world) times(s api.Spot, n int) api.Spot { return w.row[n*w.at[s]%4052] }

// less is m times the one less n times the other, told by places.
func (w world) less(one api.Spot, m int, other api.Spot, n int) api.Spot {
	return w.row[((m*w.at[one]-n*w.at[other])%4052+4052)%4052]
}

// proof is what Prove says beside a and c, by the words of the document.
func (w world) proof(x, k int, b api.Spot) api.Proof {
	c := asked(w.times(base, x), b, w.times(b, x), w.times(base, k), w.times(b, k))
	return api.Proof{C: c, S: (k + c*x) % 1013}
}

// right tells by places whether a proof is.
func (w world) right(a, b, c api.Spot, p api.Proof) bool {
	return p.C == asked(a, b, c, w.less(base, p.S, a, p.C), w.less(b, p.S, c, p.C))
}

// packed has the bytes of a spot, told without package bytes.
func packed(s api.Spot) []byte {
	switch {
	case s.Far:
		return []byte{0}
	case s.Y <= (4051-s.Y)%4051:
		return []byte{1, byte(s.X / 256), byte(s.X % 256)}
	}
	return []byte{2, byte(s.X / 256), byte(s.X % 256)}
}

// asked is Ask of right spots, told without packages bytes and hash.
func asked(a, b, c, r, s api.Spot) int {
	all := []byte{5}
	for _, one := range []api.Spot{a, b, c, r, s} {
		all = append(all, packed(one)...)
	}
	n := 5
	for _, b := range all {
		n = (n*263 + int(b) + 1) % 1000003
	}
	return n % 1013
}

// pick is a row of numbers that look as if by chance, the same ones each time.
type pick int

func (p *pick) below(n int) int {
	*p = (*p*1103515245 + 12345) & (1<<31 - 1)
	return int(*p>>8) % n
}

// secret is a number from 1 to Q - 1.
func (p *pick) secret() int { return 1 + p.below(1012) }

func checkAsk(t *testing.T, l [5]api.Spot, want int) {
	t.Helper()
	if got, err := Ask(l[0], l[1], l[2], l[3], l[4]); got != want || err != nil {
		t.Errorf("Ask of %v is %d, %v, want %d", l, got, err, want)
	}
}

// checkAsked is checkAsk of right spots.
func checkAsked(t *testing.T, l [5]api.Spot) {
	t.Helper()
	checkAsk(t, l, asked(l[0], l[1], l[2], l[3], l[4]))
}

func failAsk(t *testing.T, l [5]api.Spot, want api.Errno) {
	t.Helper()
	if got, err := Ask(l[0], l[1], l[2], l[3], l[4]); got != 0 || plain.Told(err) != want {
		t.Errorf("Ask of %v is %d, %v, want %v", l, got, err, want)
	}
}

func checkProve(t *testing.T, x, k int, b, a, c api.Spot, p api.Proof) {
	t.Helper()
	gotA, gotC, got, err := Prove(x, k, b)
	if gotA != a || gotC != c || got != p || err != nil {
		t.Errorf("Prove(%d, %d, %v) is %v, %v, %v, %v, want %v, %v, %v", x, k, b, gotA, gotC, got, err, a, c, p)
	}
}

// checkProved is checkProve of secrets and a right spot.
func (w world) checkProved(t *testing.T, x, k int, b api.Spot) {
	t.Helper()
	checkProve(t, x, k, b, w.times(base, x), w.times(b, x), w.proof(x, k, b))
}

func failProve(t *testing.T, x, k int, b api.Spot, want api.Errno) {
	t.Helper()
	a, c, p, err := Prove(x, k, b)
	if a != (api.Spot{}) || c != (api.Spot{}) || p != (api.Proof{}) || plain.Told(err) != want {
		t.Errorf("Prove(%d, %d, %v) is %v, %v, %v, %v, want %v", x, k, b, a, c, p, err, want)
	}
}

func mustProve(t *testing.T, x, k int, b api.Spot) (a, c api.Spot, p api.Proof) {
	t.Helper()
	a, c, p, err := Prove(x, k, b)
	if err != nil {
		t.Fatalf("Prove(%d, %d, %v): %v", x, k, b, err)
	}
	return a, c, p
}

func checkVerify(t *testing.T, a, b, c api.Spot, p api.Proof, want bool) {
	t.Helper()
	if got, err := Verify(a, b, c, p); got != want || err != nil {
		t.Errorf("Verify(%v, %v, %v, %v) is %v, %v, want %v", a, b, c, p, got, err, want)
	}
}

// checkVerified is checkVerify of right spots and numbers.
func (w world) checkVerified(t *testing.T, a, b, c api.Spot, p api.Proof) {
	t.Helper()
	checkVerify(t, a, b, c, p, w.right(a, b, c, p))
}

func failVerify(t *testing.T, a, b, c api.Spot, p api.Proof, want api.Errno) {
	t.Helper()
	if got, err := Verify(a, b, c, p); got || plain.Told(err) != want {
		t.Errorf("Verify(%v, %v, %v, %v) is %v, %v, want %v", a, b, c, p, got, err, want)
	}
}

func TestAskByHand(t *testing.T) {
	cases := []struct {
		l    [5]api.Spot
		want int
	}{
		{[5]api.Spot{far, far, far, far, far}, 375},
		{[5]api.Spot{flat, flat, flat, flat, flat}, 186},
		{[5]api.Spot{base, base, base, base, base}, 813},
		{[5]api.Spot{base, second, far, flat, four}, 690},
		{[5]api.Spot{four, flat, far, second, base}, 882},
	}
	for _, c := range cases {
		// What comes of the same is the same each time.
		for range 2 {
			checkAsk(t, c.l, c.want)
		}
	}
}

// Each spot of the curve is asked of at each place, also those that are Far or do not count.
func TestAskOfEachSpotAtEachPlace(t *testing.T) {
	w := newWorld(t)
	for _, s := range w.row {
		for place := range 5 {
			l := [5]api.Spot{base, second, pay, {X: 1710, Y: 1841}, {X: 1189, Y: 384}}
			l[place] = s
			checkAsked(t, l)
		}
	}
}

func TestAskInEachOrder(t *testing.T) {
	l := [5]api.Spot{base, far, second, flat, pay}
	seen := map[int]int{}
	var each func(from int)
	each = func(from int) {
		if from == len(l) {
			checkAsked(t, l)
			seen[asked(l[0], l[1], l[2], l[3], l[4])]++
			return
		}
		for k := from; k < len(l); k++ {
			l[from], l[k] = l[k], l[from]
			each(from + 1)
			l[from], l[k] = l[k], l[from]
		}
	}
	each(0)
	// Of 120 orders hardly two ask the same: an order that does not matter would show.
	if len(seen) < 100 {
		t.Errorf("all orders ask %d numbers", len(seen))
	}
}

func TestAskOfEachWrongSpotAtEachPlace(t *testing.T) {
	for _, bad := range wrongs() {
		for place := range 5 {
			for _, right := range append(counting(), beside()...) {
				l := [5]api.Spot{right, right, right, right, right}
				l[place] = bad.s
				failAsk(t, l, bad.want)
			}
		}
	}
}

// Of several that are wrong the first is told, whatever its kind.
func TestAskTellsOfTheFirst(t *testing.T) {
	many := kinds()
	for n := range 6 * 6 * 6 * 6 * 6 {
		a, b, c, r, s := many[n%6], many[n/6%6], many[n/36%6], many[n/216%6], many[n/1296]
		l := [5]api.Spot{a.s, b.s, c.s, r.s, s.s}
		if want := firstOf(a, b, c, r, s); want != api.OK {
			failAsk(t, l, want)
			continue
		}
		checkAsked(t, l)
	}
}

func TestProveByHand(t *testing.T) {
	turnedBase, turnedSecond := api.Spot{X: 1189, Y: 384}, api.Spot{X: 607, Y: 2726}
	key := api.Spot{X: 1710, Y: 1841}
	cases := []struct {
		x, k    int
		b, a, c api.Spot
		p       api.Proof
	}{
		{1, 1, base, base, base, api.Proof{C: 813, S: 814}},
		{1, 1, second, base, second, api.Proof{C: 218, S: 219}},
		{1, 1012, second, base, second, api.Proof{C: 221, S: 220}},
		{1012, 1, second, turnedBase, turnedSecond, api.Proof{C: 399, S: 615}},
		{1012, 1012, second, turnedBase, turnedSecond, api.Proof{C: 402, S: 610}},
		{29, 300, base, key, key, api.Proof{C: 17, S: 793}},
		{29, 300, second, key, api.Spot{X: 1926, Y: 1586}, api.Proof{C: 301, S: 925}},
		{29, 300, pay, key, api.Spot{X: 228, Y: 1059}, api.Proof{C: 681, S: 802}},
		{29, 300, far, key, far, api.Proof{C: 459, S: 442}},
		// C is 0 and Q - 1, S is 0 and Q - 1.
		{29, 237, second, key, api.Spot{X: 1926, Y: 1586}, api.Proof{C: 0, S: 237}},
		{29, 667, second, key, api.Spot{X: 1926, Y: 1586}, api.Proof{C: 1012, S: 638}},
		{1, 79, second, base, second, api.Proof{C: 934, S: 0}},
		{29, 739, second, key, api.Spot{X: 1926, Y: 1586}, api.Proof{C: 219, S: 1012}},
	}
	for _, c := range cases {
		for range 2 {
			checkProve(t, c.x, c.k, c.b, c.a, c.c, c.p)
			checkVerify(t, c.a, c.b, c.c, c.p, true)
		}
	}
}

// What is proved of a b that does not count is told as well; S is modulo Q all the same, so that it may not hold.
func TestProveOfWhatDoesNotCountByHand(t *testing.T) {
	key, turnedBase := api.Spot{X: 1710, Y: 1841}, api.Spot{X: 1189, Y: 384}
	cases := []struct {
		x, k    int
		b, a, c api.Spot
		p       api.Proof
		holds   bool
	}{
		{1, 1, flat, base, flat, api.Proof{C: 1009, S: 1010}, true},
		{1012, 1012, flat, turnedBase, far, api.Proof{C: 1001, S: 11}, false},
		{29, 300, flat, key, flat, api.Proof{C: 962, S: 847}, false},
		{1012, 1012, four, turnedBase, far, api.Proof{C: 512, S: 500}, true},
		{29, 300, four, key, four, api.Proof{C: 206, S: 196}, false},
		{29, 300, twice, key, api.Spot{X: 2891, Y: 3917}, api.Proof{C: 73, S: 391}, true},
		{1, 1012, twice, base, twice, api.Proof{C: 793, S: 792}, false},
		{1, 1, whole, base, whole, api.Proof{C: 529, S: 530}, true},
		{29, 300, whole, key, api.Spot{X: 2338, Y: 1681}, api.Proof{C: 822, S: 839}, false},
	}
	for _, c := range cases {
		checkProve(t, c.x, c.k, c.b, c.a, c.c, c.p)
		checkVerify(t, c.a, c.b, c.c, c.p, c.holds)
	}
}

func TestProveOfEachSecret(t *testing.T) {
	w, p := newWorld(t), pick(1)
	for n := 1; n < 1013; n++ {
		for _, b := range append(counting(), beside()...) {
			e := edges()[p.below(len(edges()))]
			w.checkProved(t, n, e, b)
			w.checkProved(t, e, n, b)
		}
	}
	for _, x := range edges() {
		for _, k := range edges() {
			for _, b := range append(counting(), beside()...) {
				w.checkProved(t, x, k, b)
			}
		}
	}
}

func TestProveOfEachSpot(t *testing.T) {
	w, p := newWorld(t), pick(2)
	for _, b := range w.row {
		w.checkProved(t, p.secret(), p.secret(), b)
	}
}

// What x and k may not be is told ahead of b, whatever is wrong with it.
func TestProveTellsOfNoSecretFirst(t *testing.T) {
	spots := append(append(counting(), beside()...), off, wide, api.Spot{X: 1, Far: true})
	for _, b := range spots {
		for _, n := range noSecrets() {
			for _, e := range edges() {
				failProve(t, n, e, b, api.ErrRange)
				failProve(t, e, n, b, api.ErrRange)
			}
			for _, m := range noSecrets() {
				failProve(t, n, m, b, api.ErrRange)
			}
		}
	}
}

func TestProveTellsOfTheSpot(t *testing.T) {
	for _, bad := range wrongs() {
		for _, x := range edges() {
			for _, k := range edges() {
				failProve(t, x, k, bad.s, bad.want)
			}
		}
	}
}

// What is proved holds: of each x, and of each k, for all b that count.
func TestWhatIsProvedHolds(t *testing.T) {
	w, p := newWorld(t), pick(3)
	for n := 1; n < 1013; n++ {
		// Each fourth of the row counts: this goes over all of these but Far.
		b := w.row[4*n]
		for _, c := range [][2]int{{n, p.secret()}, {p.secret(), n}, {n, n}, {n, 1013 - n}} {
			x, k := c[0], c[1]
			a, c, proof := mustProve(t, x, k, b)
			if a != w.times(base, x) || c != w.times(b, x) {
				t.Errorf("Prove(%d, %d, %v) is of %v and %v", x, k, b, a, c)
			}
			checkVerify(t, a, b, c, proof, true)
		}
	}
	for _, x := range edges() {
		for _, k := range edges() {
			for _, b := range counting() {
				a, c, proof := mustProve(t, x, k, b)
				checkVerify(t, a, b, c, proof, true)
			}
		}
	}
}

// No two k lead to one proof of the same x: C and S tell k.
func TestEachNumberHasItsProof(t *testing.T) {
	seen := map[api.Proof]int{}
	for k := 1; k < 1013; k++ {
		a, c, proof := mustProve(t, 29, k, second)
		checkVerify(t, a, second, c, proof, true)
		seen[proof]++
	}
	if len(seen) != 1012 {
		t.Errorf("1012 numbers have %d proofs", len(seen))
	}
}

func TestVerifyWithEachOtherNumber(t *testing.T) {
	w := newWorld(t)
	for _, v := range [][2]int{{29, 300}, {1, 79}, {29, 237}, {29, 667}, {29, 739}, {1012, 1012}} {
		a, c, proof := mustProve(t, v[0], v[1], second)
		others := 0
		for n := range 1013 {
			w.checkVerified(t, a, second, c, api.Proof{C: n, S: proof.S})
			w.checkVerified(t, a, second, c, api.Proof{C: proof.C, S: n})
			if n != proof.C && w.right(a, second, c, api.Proof{C: n, S: proof.S}) {
				others++
			}
			if n != proof.S && w.right(a, second, c, api.Proof{C: proof.C, S: n}) {
				others++
			}
		}
		// A few do by luck, as the numbers are small.
		if others > 20 {
			t.Errorf("of %v %d other numbers do", proof, others)
		}
		w.checkVerified(t, a, second, c, api.Proof{C: proof.S, S: proof.C})
	}
}

func TestVerifyWithAnotherNumberByHand(t *testing.T) {
	a, c, proof := mustProve(t, 29, 300, second)
	checkVerify(t, a, second, c, proof, true)
	// This one is right by luck: it is that of another k.
	checkVerify(t, a, second, c, api.Proof{C: 303, S: 925}, true)
	for _, d := range []int{1, 3, -1, -2, 29, 300} {
		checkVerify(t, a, second, c, api.Proof{C: proof.C + d, S: proof.S}, false)
		checkVerify(t, a, second, c, api.Proof{C: proof.C, S: (proof.S + d) % 1013}, false)
	}
	for _, p := range []api.Proof{{}, {C: 1012}, {S: 1012}, {C: 1012, S: 1012}, {C: proof.C}, {S: proof.S}, {C: proof.S, S: proof.C}} {
		checkVerify(t, a, second, c, p, false)
	}
}

// Each spot of the curve in each place: also Far, and those that do not count.
func TestVerifyWithEachOtherSpot(t *testing.T) {
	w := newWorld(t)
	a, c, proof := mustProve(t, 29, 300, second)
	others := 0
	for _, s := range w.row {
		for place, right := range []api.Spot{a, second, c} {
			l := [3]api.Spot{a, second, c}
			l[place] = s
			w.checkVerified(t, l[0], l[1], l[2], proof)
			if s != right && w.right(l[0], l[1], l[2], proof) {
				others++
			}
		}
	}
	if others > 60 {
		t.Errorf("%d other spots do", others)
	}
}

func TestVerifyWithAnotherSpotByHand(t *testing.T) {
	a, c, proof := mustProve(t, 29, 300, second)
	for _, s := range append(beside(), far, base, pay) {
		checkVerify(t, s, second, c, proof, false)
		checkVerify(t, a, s, c, proof, false)
		checkVerify(t, a, second, s, proof, false)
	}
	checkVerify(t, a, c, second, proof, false)
	checkVerify(t, c, second, a, proof, false)
	checkVerify(t, second, a, c, proof, false)
}

// If c is not as many times b as a is Base, no S answers C by rule: such proofs are right by luck alone, and few.
func TestWhatIsNotSoIsHardlyProved(t *testing.T) {
	w, p := newWorld(t), pick(4)
	lucky := 0
	for range 3000 {
		x, k := p.secret(), p.secret()
		// Any secret but x.
		y := (x+p.below(1011))%1012 + 1
		a, c := w.times(base, x), w.times(second, y)
		n := asked(a, second, c, w.times(base, k), w.times(second, k))
		for _, s := range []int{(k + n*x) % 1013, (k + n*y) % 1013} {
			proof := api.Proof{C: n, S: s}
			w.checkVerified(t, a, second, c, proof)
			if w.right(a, second, c, proof) {
				lucky++
			}
		}
	}
	if lucky > 40 {
		t.Errorf("%d of 6000 proofs of what is not so are right", lucky)
	}
}

// Where x is 0 there is no Prove, but Verify tells of it as of any other.
func TestVerifyOfFar(t *testing.T) {
	w := newWorld(t)
	for _, b := range append(counting(), beside()...) {
		for _, s := range append(edges(), 0) {
			n := asked(far, b, far, w.times(base, s), w.times(b, s))
			checkVerify(t, far, b, far, api.Proof{C: n, S: s}, true)
			checkVerify(t, far, b, far, api.Proof{C: (n + 1) % 1013, S: s}, false)
		}
	}
}

func TestVerifyOfSpotsOfEveryKind(t *testing.T) {
	w, p := newWorld(t), pick(5)
	numbers := append(edges(), 0)
	spots := append(counting(), beside()...)
	for _, a := range spots {
		for _, b := range spots {
			for _, c := range spots {
				for _, s := range numbers {
					w.checkVerified(t, a, b, c, api.Proof{C: numbers[p.below(len(numbers))], S: s})
				}
			}
		}
	}
}

// found is a right proof of spots of any kind, if there is one with this S.
func (w world) found(a, b, c api.Spot, s int) (api.Proof, bool) {
	for n := range 1013 {
		if p := (api.Proof{C: n, S: s}); w.right(a, b, c, p) {
			return p, true
		}
	}
	return api.Proof{}, false
}

// Of spots that do not count, and of what is not so, some proofs are right as well: the places tell just which.
func TestVerifyOfRightProofsOfEveryKind(t *testing.T) {
	w, p := newWorld(t), pick(6)
	many := 0
	for range 1000 {
		a, b, c := w.row[p.below(4052)], w.row[p.below(4052)], w.row[p.below(4052)]
		proof, ok := w.found(a, b, c, p.below(1013))
		if !ok {
			continue
		}
		many++
		checkVerify(t, a, b, c, proof, true)
		w.checkVerified(t, a, b, c, api.Proof{C: proof.C, S: (proof.S + 1) % 1013})
		w.checkVerified(t, a, b, c, api.Proof{C: (proof.C + 1) % 1013, S: proof.S})
	}
	if many < 300 {
		t.Errorf("only %d proofs were found", many)
	}
}

// A number that is as good modulo Q, or modulo Whole, is out of range all the same.
func TestVerifyTellsOfANumberThatMayNotBe(t *testing.T) {
	a, c, proof := mustProve(t, 29, 300, second)
	for _, d := range []int{1013, -1013, 4052, -4052, 1013 << 40} {
		failVerify(t, a, second, c, api.Proof{C: proof.C + d, S: proof.S}, api.ErrRange)
		failVerify(t, a, second, c, api.Proof{C: proof.C, S: proof.S + d}, api.ErrRange)
	}
	for _, n := range outside() {
		for _, e := range append(edges(), 0, proof.C, proof.S) {
			for _, b := range append(append(counting(), beside()...), second) {
				failVerify(t, a, b, c, api.Proof{C: n, S: e}, api.ErrRange)
				failVerify(t, a, b, c, api.Proof{C: e, S: n}, api.ErrRange)
				failVerify(t, b, b, b, api.Proof{C: n, S: e}, api.ErrRange)
				failVerify(t, b, b, b, api.Proof{C: e, S: n}, api.ErrRange)
			}
		}
		for _, m := range outside() {
			failVerify(t, a, second, c, api.Proof{C: n, S: m}, api.ErrRange)
		}
	}
}

func TestVerifyOfEachWrongSpot(t *testing.T) {
	a, c, proof := mustProve(t, 29, 300, second)
	proofs := []api.Proof{proof, {}, {C: 1012, S: 1012}, {C: 1013}, {S: -1}, {C: math.MinInt, S: math.MaxInt}}
	for _, bad := range wrongs() {
		for _, p := range proofs {
			failVerify(t, bad.s, second, c, p, bad.want)
			failVerify(t, a, bad.s, c, p, bad.want)
			failVerify(t, a, second, bad.s, p, bad.want)
		}
		for _, also := range wrongs() {
			failVerify(t, bad.s, also.s, c, proof, bad.want)
			failVerify(t, bad.s, second, also.s, proof, bad.want)
			failVerify(t, a, bad.s, also.s, proof, bad.want)
		}
	}
}

// Spots are told ahead of numbers, in their order.
func TestVerifyTellsOfTheFirst(t *testing.T) {
	w := newWorld(t)
	numbers := []int{0, 1, 1012, 1013, -1, math.MaxInt, math.MinInt}
	check := func(a, b, c wrong, p api.Proof) {
		t.Helper()
		want := firstOf(a, b, c)
		if want == api.OK && (p.C < 0 || p.C > 1012 || p.S < 0 || p.S > 1012) {
			want = api.ErrRange
		}
		if want != api.OK {
			failVerify(t, a.s, b.s, c.s, p, want)
			return
		}
		w.checkVerified(t, a.s, b.s, c.s, p)
	}
	for _, a := range kinds() {
		for _, b := range kinds() {
			for _, c := range kinds() {
				for _, m := range numbers {
					for _, n := range numbers {
						check(a, b, c, api.Proof{C: m, S: n})
					}
				}
			}
		}
	}
}
