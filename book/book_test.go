package book

import (
	"math"
	"slices"
	"testing"

	"pairstone/api"
	"pairstone/curve"
	"pairstone/hide"
	"pairstone/plain"
)

var (
	far = api.Spot{Far: true}
	// flat has Y 0: twice it is Far, so that it does not count. Its numbers are those of what is Far.
	flat   = api.Spot{}
	base   = api.Spot{X: 1189, Y: 3667}
	minus  = api.Spot{X: 1189, Y: 384}
	second = api.Spot{X: 607, Y: 1325}
	// four, twice and whole are on the curve but do not count: their orders are 4, twice Q and Whole.
	four  = api.Spot{X: 4050, Y: 90}
	twice = api.Spot{X: 3180, Y: 1220}
	whole = api.Spot{X: 107, Y: 3793}
	// wide has a number out of range, and off is beside the curve.
	wide = api.Spot{X: 4051}
	off  = api.Spot{X: 1189, Y: 3666}
)

// outside are numbers that are not from 0 to Q - 1, some of which are one modulo Q, or in their lower bits.
func outside() []int {
	return []int{-1, -2, -1012, -1013, -1014, 1013, 1014, 2025, 2026, 4051, 4052, 4053, 1 << 16, 1 << 32, 1<<32 + 1, 1 << 62, math.MaxInt, math.MinInt, math.MinInt + 1}
}

// edges are numbers that may be: the least, the greatest, and some between.
func edges() []int { return []int{0, 1, 2, 29, 506, 507, 1011, 1012} }

// beside has spots of the curve that do not count, one of each order: 2, 4, twice Q and Whole.
func beside() []api.Spot { return []api.Spot{flat, four, twice, whole} }

// rights has spots of every kind that is right.
func rights() []api.Spot { return append(beside(), far, base, minus, second) }

// wrong is a spot, and what is told of it: OK, if it is right.
type wrong struct {
	s    api.Spot
	want api.Errno
}

// wrongs has spots that are none: out of range at each place, Far and somewhere, beside the curve.
func wrongs() (l []wrong) {
	for _, n := range []int{-1, -4051, 4051, 4052, 1 << 16, math.MaxInt, math.MinInt} {
		l = append(l,
			wrong{api.Spot{X: n}, api.ErrRange},
			wrong{api.Spot{Y: n}, api.ErrRange},
			wrong{api.Spot{X: n, Y: 3667}, api.ErrRange},
			wrong{api.Spot{X: 1189, Y: n}, api.ErrRange},
			wrong{api.Spot{X: n, Far: true}, api.ErrRange},
			wrong{api.Spot{Y: n, Far: true}, api.ErrRange},
		)
	}
	return append(l,
		wrong{api.Spot{X: 1189 + 4051, Y: 3667}, api.ErrRange},
		wrong{api.Spot{X: 1189, Y: 3667 - 4051}, api.ErrRange},
		wrong{api.Spot{X: 1, Far: true}, api.ErrRange},
		wrong{api.Spot{X: 1189, Y: 3667, Far: true}, api.ErrRange},
		wrong{off, api.ErrShape},
		wrong{api.Spot{X: 1189}, api.ErrShape},
		wrong{api.Spot{Y: 1}, api.ErrShape},
		wrong{api.Spot{X: 4050, Y: 4050}, api.ErrShape},
	)
}

// kinds has one of each kind of spot.
func kinds() []wrong {
	return []wrong{
		{far, api.OK}, {base, api.OK}, {whole, api.OK},
		{wide, api.ErrRange}, {api.Spot{X: 1, Far: true}, api.ErrRange}, {off, api.ErrShape},
	}
}

// noCoins has spots that may be none: those that are wrong, and those that do not count.
func noCoins() []api.Spot {
	l := beside()
	for _, a := range wrongs() {
		l = append(l, a.s)
	}
	return l
}

// world has all spots in a row, each as so many times the first one of it: sums of spots are those of their places, modulo Whole.
type world struct {
	row []api.Spot
	at  map[api.Spot]int
	// by is of each spot that counts how many times Second it is.
	by map[api.Spot]int
}

func newWorld(t *testing.T) world {
	t.Helper()
	w := world{at: map[api.Spot]int{}, by: map[api.Spot]int{}}
	for s := far; len(w.row) < 4052; {
		w.at[s] = len(w.row)
		w.row = append(w.row, s)
		next, err := curve.Add(s, whole)
		if err != nil {
			t.Fatalf("Add(%v, %v): %v", s, whole, err)
		}
		s = next
	}
	for n := range 1013 {
		w.by[w.hidden(0, n)] = n
	}
	if len(w.at) != 4052 || len(w.by) != 1013 {
		t.Fatalf("%d spots, of which %d count, want 4052 and 1013", len(w.at), len(w.by))
	}
	return w
}

// hidden is chapter 13's Hide of numbers that may be, told by places alone.
func (w world) hidden(v, r int) api.Spot {
	return w.row[(v*w.at[base]+r*w.at[second])%4052]
}

// sum of spots that are right.
func (w world) sum(l ...api.Spot) api.Spot {
	at := 0
	for _, s := range l {
		at += w.at[s]
	}
	return w.row[at%4052]
}

// less is a, less b.
func (w world) less(a, b api.Spot) api.Spot {
	return w.row[(w.at[a]+4052-w.at[b])%4052]
}

// counts tells whether a spot, be it right or wrong, may be a coin.
func (w world) counts(s api.Spot) bool {
	_, ok := w.by[s]
	return ok
}

// closed is what Close says by the words of the document.
func (w world) closed(r, k int, e api.Spot) api.Seal {
	spot := w.hidden(0, k)
	return api.Seal{R: spot, S: (k + asked(spot, e)*r) % 1013}
}

// sealed is a seal that is right for an excess: the number that hides nothing in it is found, as the curve is small.
func (w world) sealed(e api.Spot, k int) api.Seal { return w.closed(w.by[e], k, e) }

// right tells by places alone whether S times Second is R, and Ask times the excess.
func (w world) right(s api.Seal, e api.Spot) bool {
	return (s.S*w.at[second]-w.at[s.R]-asked(s.R, e)*w.at[e])%4052 == 0
}

// packed has the bytes of a spot, told without package bytes.
func packed(s api.Spot) []byte {
	switch {
	case s.Far:
		return []byte{0}
	case s.Y <= (4051-s.Y)%4051:
		return []byte{1, byte(s.X / 256), byte(s.X % 256)}
	}
	return []byte{2, byte(s.X / 256), byte(s.X % 256)}
}

// asked is Ask of right spots, told without packages bytes and hash.
func asked(r, e api.Spot) int {
	n := 5
	for _, part := range [][]byte{{2}, packed(r), packed(e)} {
		for _, b := range part {
			n = (n*263 + int(b) + 1) % 1000003
		}
	}
	return n % 1013
}

// pick is a row of numbers that look as if by chance, the same ones each time.
type pick int

func (p *pick) below(n int) int {
	*p = (*p*1103515245 + 12345) & (1<<31 - 1)
	return int(*p>>8) % n
}

// coin is a spot that counts.
func (p *pick) coin(w world) api.Spot { return w.row[4*p.below(1013)] }

func (p *pick) coins(w world, many int) (l []api.Spot) {
	for range many {
		l = append(l, p.coin(w))
	}
	return l
}

// mirror is what a book has to be by the words of the document.
type mirror struct {
	w     world
	coins []api.Spot
	live  []int
}

func (m *mirror) faultOfCome(come []api.Spot) api.Errno {
	if len(come) > 12 {
		return api.ErrFull
	}
	for _, s := range come {
		if !m.w.counts(s) {
			return api.ErrShape
		}
	}
	return api.OK
}

func (m *mirror) faultOfGone(gone []int) api.Errno {
	for k, place := range gone {
		switch {
		case place < 0 || place > len(m.coins)-1:
			return api.ErrRange
		case !slices.Contains(m.live, place):
			return api.ErrState
		case slices.Index(gone, place) < k:
			return api.ErrClash
		}
	}
	return api.OK
}

func (m *mirror) excess(gone []int, come []api.Spot) (api.Spot, api.Errno) {
	if e := m.faultOfGone(gone); e != api.OK {
		return api.Spot{}, e
	}
	if e := m.faultOfCome(come); e != api.OK {
		return api.Spot{}, e
	}
	e := m.w.sum(come...)
	for _, place := range gone {
		e = m.w.less(e, m.coins[place])
	}
	return e, api.OK
}

func (m *mirror) do(d api.Deal) api.Errno {
	e, fault := m.excess(d.Gone, d.New)
	switch {
	case fault != api.OK:
		return fault
	case len(m.coins)+len(d.New) > 1000:
		return api.ErrFull
	case d.Seal.S < 0 || d.Seal.S > 1012:
		return api.ErrRange
	}
	if fault := plain.Told(curve.Check(d.Seal.R)); fault != api.OK {
		return fault
	}
	if !m.w.right(d.Seal, e) {
		return api.ErrWrong
	}
	m.live = slices.DeleteFunc(m.live, func(place int) bool { return slices.Contains(d.Gone, place) })
	for _, s := range d.New {
		m.live = append(m.live, len(m.coins))
		m.coins = append(m.coins, s)
	}
	return api.OK
}

func (m *mirror) total() api.Spot {
	e := far
	for _, place := range m.live {
		e = m.w.sum(e, m.coins[place])
	}
	return e
}

// deal that is closed as it should be. Its list is a copy, as it may be that of the live ones, which change.
func (m *mirror) deal(t *testing.T, gone []int, come []api.Spot, k int) api.Deal {
	t.Helper()
	e, fault := m.excess(gone, come)
	if fault != api.OK {
		t.Fatalf("%v go and %v come: %v", gone, come, fault)
	}
	return api.Deal{Gone: slices.Clone(gone), New: come, Seal: m.w.sealed(e, k)}
}

// opened is a book, and what it has to be.
func opened(t *testing.T, w world, coins ...api.Spot) (*Book, *mirror) {
	t.Helper()
	b, err := New(coins)
	if b == nil || err != nil {
		t.Fatalf("New(%v) is %v, %v", coins, b, err)
	}
	m := &mirror{w: w, coins: slices.Clone(coins)}
	for place := range coins {
		m.live = append(m.live, place)
	}
	checkBook(t, b, m)
	return b, m
}

// grown is a book of that many coins, of which some have gone.
func grown(t *testing.T, w world, p *pick, many int) (*Book, *mirror) {
	t.Helper()
	b, m := opened(t, w, p.coins(w, min(many, 12))...)
	for len(m.coins) < many {
		gone := []int{m.live[p.below(len(m.live))]}
		checkDo(t, b, m, m.deal(t, gone, p.coins(w, min(many-len(m.coins), 12)), 1+p.below(1012)))
	}
	checkBook(t, b, m)
	return b, m
}

// spent is a book of four coins, of which those at 1 and 2 have gone, and the last one came for them.
func spent(t *testing.T, w world) (*Book, *mirror) {
	t.Helper()
	b, m := opened(t, w, w.hidden(5, 29), w.hidden(7, 300), w.hidden(11, 77))
	checkDo(t, b, m, m.deal(t, []int{1, 2}, []api.Spot{w.hidden(18, 500)}, 9))
	checkBook(t, b, m)
	return b, m
}

func checkBook(t *testing.T, b *Book, m *mirror) {
	t.Helper()
	if got := b.Live(); !slices.Equal(got, m.live) {
		t.Errorf("Live is %v, want %v", got, m.live)
	}
	if got := b.Coins(); !slices.Equal(got, m.coins) {
		t.Errorf("Coins is %v, want %v", got, m.coins)
	}
	if got, want := b.Total(), m.total(); got != want {
		t.Errorf("Total is %v, want %v", got, want)
	}
}

func checkAsk(t *testing.T, r, e api.Spot, want int) {
	t.Helper()
	if got, err := Ask(r, e); got != want || err != nil {
		t.Errorf("Ask(%v, %v) is %d, %v, want %d", r, e, got, err, want)
	}
}

func failAsk(t *testing.T, r, e api.Spot, want api.Errno) {
	t.Helper()
	if got, err := Ask(r, e); got != 0 || plain.Told(err) != want {
		t.Errorf("Ask(%v, %v) is %d, %v, want %v", r, e, got, err, want)
	}
}

func checkClose(t *testing.T, r, k int, e api.Spot, want api.Seal) {
	t.Helper()
	if got, err := Close(r, k, e); got != want || err != nil {
		t.Errorf("Close(%d, %d, %v) is %v, %v, want %v", r, k, e, got, err, want)
	}
}

func failClose(t *testing.T, r, k int, e api.Spot, want api.Errno) {
	t.Helper()
	if got, err := Close(r, k, e); got != (api.Seal{}) || plain.Told(err) != want {
		t.Errorf("Close(%d, %d, %v) is %v, %v, want %v", r, k, e, got, err, want)
	}
}

func failNew(t *testing.T, coins []api.Spot, want api.Errno) {
	t.Helper()
	if got, err := New(coins); got != nil || plain.Told(err) != want {
		t.Errorf("New(%v) is %v, %v, want %v", coins, got, err, want)
	}
}

// checkExcess is of what is right, and of what is wrong.
func checkExcess(t *testing.T, b *Book, m *mirror, gone []int, come []api.Spot) {
	t.Helper()
	want, fault := m.excess(gone, come)
	if got, err := b.Excess(gone, come); got != want || plain.Told(err) != fault {
		t.Errorf("Excess(%v, %v) is %v, %v, want %v, %v", gone, come, got, err, want, fault)
	}
}

func failExcess(t *testing.T, b *Book, gone []int, come []api.Spot, want api.Errno) {
	t.Helper()
	if got, err := b.Excess(gone, come); got != (api.Spot{}) || plain.Told(err) != want {
		t.Errorf("Excess(%v, %v) is %v, %v, want %v", gone, come, got, err, want)
	}
}

// checkDo is of a deal that is done.
func checkDo(t *testing.T, b *Book, m *mirror, d api.Deal) {
	t.Helper()
	if fault := m.do(d); fault != api.OK {
		t.Fatalf("%v is not to be done: %v", d, fault)
	}
	if err := b.Do(d); err != nil {
		t.Fatalf("Do(%v): %v", d, err)
	}
}

// failDo is of one that is not: it leaves the book as it was.
func failDo(t *testing.T, b *Book, m *mirror, d api.Deal, want api.Errno) {
	t.Helper()
	if fault := m.do(d); fault != want {
		t.Fatalf("of %v %v is to be told, want %v", d, fault, want)
	}
	if err := b.Do(d); plain.Told(err) != want {
		t.Errorf("Do(%v) is %v, want %v", d, err, want)
	}
	checkBook(t, b, m)
}

func TestSecondIsChapter13s(t *testing.T) {
	if got := hide.Second(); got != second {
		t.Fatalf("Second is %v, want %v", got, second)
	}
}

func TestAskByHand(t *testing.T) {
	some := api.Spot{X: 1898, Y: 1157}
	cases := []struct {
		r, e api.Spot
		want int
	}{
		{some, some, 600},
		{far, far, 627},
		{far, flat, 330},
		{flat, far, 994},
		{base, second, 287},
		{second, base, 897},
		{minus, second, 5},
	}
	for _, c := range cases {
		if got := asked(c.r, c.e); got != c.want {
			t.Errorf("the rule leads to %d, want %d", got, c.want)
		}
		// What comes of the same is the same each time.
		for range 2 {
			checkAsk(t, c.r, c.e, c.want)
		}
	}
}

func TestAskOfEachSpot(t *testing.T) {
	w := newWorld(t)
	for _, s := range w.row {
		for _, o := range rights() {
			checkAsk(t, s, o, asked(s, o))
			checkAsk(t, o, s, asked(o, s))
		}
		checkAsk(t, s, s, asked(s, s))
	}
}

func TestAskOfManyPairs(t *testing.T) {
	w, p := newWorld(t), pick(1)
	for range 5000 {
		r, e := w.row[p.below(4052)], w.row[p.below(4052)]
		checkAsk(t, r, e, asked(r, e))
	}
}

func TestAskOfWrongSpots(t *testing.T) {
	for _, a := range wrongs() {
		for _, s := range rights() {
			failAsk(t, a.s, s, a.want)
			failAsk(t, s, a.s, a.want)
		}
		for _, b := range wrongs() {
			failAsk(t, a.s, b.s, a.want)
		}
	}
}

func TestCloseByHand(t *testing.T) {
	cases := []struct {
		r, k int
		e    api.Spot
		want api.Seal
	}{
		{0, 1012, api.Spot{X: 1898, Y: 1157}, api.Seal{R: api.Spot{X: 607, Y: 2726}, S: 1012}},
		{1, 382, api.Spot{X: 2534, Y: 1256}, api.Seal{R: api.Spot{X: 353, Y: 3878}, S: 609}},
		{811, 1, api.Spot{X: 3022, Y: 1303}, api.Seal{R: second, S: 687}},
		{680, 1012, api.Spot{X: 1006, Y: 652}, api.Seal{R: api.Spot{X: 607, Y: 2726}, S: 583}},
		// 1, and the challenge of Second and Base: 897, the other way round it would be 287.
		{1, 1, base, api.Seal{R: second, S: 898}},
	}
	for _, c := range cases {
		for range 2 {
			checkClose(t, c.r, c.k, c.e, c.want)
		}
	}
}

func TestCloseOfEachNumber(t *testing.T) {
	w, p := newWorld(t), pick(2)
	for n := range 1013 {
		for _, r := range edges() {
			if n != 0 {
				e := w.row[p.below(4052)]
				checkClose(t, r, n, e, w.closed(r, n, e))
			}
			if r != 0 {
				e := w.row[p.below(4052)]
				checkClose(t, n, r, e, w.closed(n, r, e))
			}
		}
	}
}

func TestCloseOfEachSpot(t *testing.T) {
	w := newWorld(t)
	for _, e := range w.row {
		checkClose(t, 29, 300, e, w.closed(29, 300, e))
	}
	for _, e := range rights() {
		for _, r := range edges() {
			for _, k := range edges()[1:] {
				checkClose(t, r, k, e, w.closed(r, k, e))
			}
		}
	}
}

func TestClosedWithNothingLeftItIsK(t *testing.T) {
	for _, e := range rights() {
		for k := 1; k < 1013; k += 11 {
			if got, err := Close(0, k, e); got.S != k || err != nil {
				t.Errorf("Close(0, %d, %v) is %v, %v, want an S of %d", k, e, got, err, k)
			}
		}
	}
}

// What Close tells of r times Second holds by places, of anything else it does not.
func TestWhatIsClosedIsRight(t *testing.T) {
	w, p := newWorld(t), pick(3)
	for r := range 1013 {
		e := w.hidden(0, r)
		got, err := Close(r, 1+p.below(1012), e)
		if err != nil || !w.right(got, e) {
			t.Errorf("Close of %d and %v is %v, %v: not right", r, e, got, err)
		}
		other := (r + 1 + p.below(1012)) % 1013
		got, err = Close(other, 1+p.below(1012), e)
		// A challenge of 0 asks for nothing.
		if err != nil || w.right(got, e) != (asked(got.R, e) == 0) {
			t.Errorf("Close of %d and %v is %v, %v: right", other, e, got, err)
		}
	}
}

func TestCloseTellsOfTheNumbersFirst(t *testing.T) {
	for _, a := range append(wrongs(), kinds()...) {
		for _, n := range outside() {
			for _, e := range edges() {
				failClose(t, n, e, a.s, api.ErrRange)
				failClose(t, e, n, a.s, api.ErrRange)
			}
			failClose(t, n, n, a.s, api.ErrRange)
			failClose(t, n, 0, a.s, api.ErrRange)
		}
		// r may be 0, k may not.
		for _, r := range edges() {
			failClose(t, r, 0, a.s, api.ErrRange)
		}
	}
}

func TestCloseOfAWrongSpot(t *testing.T) {
	for _, a := range wrongs() {
		for _, r := range edges() {
			for _, k := range edges()[1:] {
				failClose(t, r, k, a.s, a.want)
			}
		}
	}
}

func TestNewOfNoCoin(t *testing.T) {
	w := newWorld(t)
	for _, l := range [][]api.Spot{nil, {}} {
		b, m := opened(t, w, l...)
		if b.Total() != far || len(b.Live()) != 0 || len(b.Coins()) != 0 {
			t.Errorf("a book of %v has %v, %v, %v", l, b.Live(), b.Coins(), b.Total())
		}
		failExcess(t, b, []int{0}, nil, api.ErrRange)
		checkDo(t, b, m, m.deal(t, nil, []api.Spot{base}, 5))
		checkBook(t, b, m)
	}
}

func TestNewOfEachSpot(t *testing.T) {
	w := newWorld(t)
	for at, s := range w.row {
		if at%4 != 0 {
			failNew(t, []api.Spot{s}, api.ErrShape)
			continue
		}
		opened(t, w, s)
	}
}

func TestNewOfEachLength(t *testing.T) {
	w, p := newWorld(t), pick(4)
	for many := range 13 {
		opened(t, w, p.coins(w, many)...)
		// The same one as often as one likes, also one that is Far.
		opened(t, w, slices.Repeat([]api.Spot{base}, many)...)
		opened(t, w, slices.Repeat([]api.Spot{far}, many)...)
	}
}

func TestNewOfMoreThanMayBe(t *testing.T) {
	for _, many := range []int{13, 14, 24, 25, 255, 256, 256 + 12, 1000, 1001, 1 << 16, 1<<16 + 1} {
		failNew(t, slices.Repeat([]api.Spot{base}, many), api.ErrFull)
		// That there are too many is told ahead of what is wrong with any.
		failNew(t, slices.Repeat([]api.Spot{wide}, many), api.ErrFull)
		failNew(t, slices.Repeat([]api.Spot{whole}, many), api.ErrFull)
	}
}

// Of a coin ErrShape is told, whatever is wrong with it.
func TestNewOfWhatMayBeNoCoin(t *testing.T) {
	w, p := newWorld(t), pick(5)
	for _, s := range noCoins() {
		failNew(t, []api.Spot{s}, api.ErrShape)
		for _, many := range []int{2, 7, 12} {
			for place := range many {
				l := p.coins(w, many)
				l[place] = s
				failNew(t, l, api.ErrShape)
				for _, o := range []api.Spot{wide, off, flat} {
					l[p.below(many)] = o
				}
				failNew(t, l, api.ErrShape)
			}
		}
		failNew(t, slices.Repeat([]api.Spot{s}, 12), api.ErrShape)
	}
}

func TestExcessOfNothing(t *testing.T) {
	w := newWorld(t)
	b, m := spent(t, w)
	for _, gone := range [][]int{nil, {}} {
		for _, come := range [][]api.Spot{nil, {}} {
			if got, err := b.Excess(gone, come); got != far || err != nil {
				t.Errorf("Excess of nothing is %v, %v, want %v", got, err, far)
			}
		}
	}
	checkBook(t, b, m)
}

func TestExcessByHand(t *testing.T) {
	b, err := New([]api.Spot{{X: 1618, Y: 4042}})
	if err != nil {
		t.Fatal(err)
	}
	come := []api.Spot{{X: 881, Y: 2312}, {X: 3357, Y: 3624}, {X: 1919, Y: 1317}}
	cases := []struct {
		gone []int
		come []api.Spot
		want api.Spot
	}{
		{[]int{0}, come, api.Spot{X: 2995, Y: 1780}},
		{[]int{0}, nil, api.Spot{X: 1618, Y: 9}},
		{nil, come[:1], come[0]},
		{[]int{0}, []api.Spot{{X: 1618, Y: 4042}}, far},
		{nil, []api.Spot{base, minus}, far},
		{nil, []api.Spot{far}, far},
	}
	for _, c := range cases {
		for range 2 {
			if got, err := b.Excess(c.gone, c.come); got != c.want || err != nil {
				t.Errorf("Excess(%v, %v) is %v, %v, want %v", c.gone, c.come, got, err, c.want)
			}
		}
	}
}

func TestExcessOfThoseThatGoAlone(t *testing.T) {
	w, p := newWorld(t), pick(6)
	b, m := grown(t, w, &p, 60)
	for _, place := range m.live {
		checkExcess(t, b, m, []int{place}, nil)
	}
	for many := range len(m.live) + 1 {
		checkExcess(t, b, m, m.live[:many], nil)
		checkExcess(t, b, m, m.live[many:], nil)
	}
	back := slices.Clone(m.live)
	slices.Reverse(back)
	checkExcess(t, b, m, back, nil)
	if got, err := b.Excess(back, nil); got != w.less(far, b.Total()) || err != nil {
		t.Errorf("Excess of all that go is %v, %v, want the Neg of %v", got, err, b.Total())
	}
	checkBook(t, b, m)
}

func TestExcessOfThoseThatComeAlone(t *testing.T) {
	w, p := newWorld(t), pick(7)
	b, m := spent(t, w)
	for many := range 13 {
		l := p.coins(w, many)
		checkExcess(t, b, m, nil, l)
		slices.Reverse(l)
		checkExcess(t, b, m, nil, l)
		checkExcess(t, b, m, nil, slices.Repeat([]api.Spot{base}, many))
	}
	for s := range w.by {
		if got, err := b.Excess(nil, []api.Spot{s}); got != s || err != nil {
			t.Errorf("Excess of %v that comes is %v, %v", s, got, err)
		}
	}
	checkBook(t, b, m)
}

func TestExcessOfAPlaceThatIsNone(t *testing.T) {
	w := newWorld(t)
	b, m := spent(t, w)
	checkExcess(t, b, m, []int{3}, nil)
	for _, place := range []int{4, 5, 12, 13, 999, 1000, 1 << 32, 1<<32 + 3, 1 << 62, math.MaxInt, -1, -4, -1 << 32, math.MinInt, math.MinInt + 3} {
		for _, gone := range [][]int{{place}, {0, place}, {place, 0}, {0, 3, place}, {place, place}} {
			failExcess(t, b, gone, nil, api.ErrRange)
			// What comes has no place yet.
			failExcess(t, b, gone, []api.Spot{base, second}, api.ErrRange)
		}
	}
	checkBook(t, b, m)
}

func TestExcessOfACoinThatHasGone(t *testing.T) {
	w := newWorld(t)
	b, m := spent(t, w)
	for _, gone := range [][]int{{1}, {2}, {0, 1}, {1, 0}, {0, 3, 2}, {1, 2}, {1, 1}, {0, 2, 2}} {
		failExcess(t, b, gone, nil, api.ErrState)
		failExcess(t, b, gone, []api.Spot{base}, api.ErrState)
	}
	checkBook(t, b, m)
}

func TestExcessOfACoinThatIsThereTwice(t *testing.T) {
	w := newWorld(t)
	b, m := spent(t, w)
	for _, gone := range [][]int{{0, 0}, {3, 3}, {0, 3, 0}, {3, 0, 0}, {0, 0, 3}, {0, 0, 0}, {0, 3, 0, 3}, slices.Repeat([]int{3}, 1<<16)} {
		failExcess(t, b, gone, nil, api.ErrClash)
		failExcess(t, b, gone, []api.Spot{base}, api.ErrClash)
	}
	// A like coin at another place is another one.
	b, m = opened(t, w, base, base, base)
	checkExcess(t, b, m, []int{2, 0, 1}, nil)
}

func TestExcessTellsOfTheFirstPlaceThatHasAFault(t *testing.T) {
	w := newWorld(t)
	b, m := spent(t, w)
	cases := []struct {
		gone []int
		want api.Errno
	}{
		{[]int{4, 1}, api.ErrRange},
		{[]int{1, 4}, api.ErrState},
		{[]int{-1, 0, 0}, api.ErrRange},
		{[]int{0, 0, -1}, api.ErrClash},
		{[]int{0, 0, 1}, api.ErrClash},
		{[]int{1, 0, 0}, api.ErrState},
		// One that is there twice has its fault where it is there again.
		{[]int{0, 4, 0}, api.ErrRange},
		{[]int{0, 1, 0}, api.ErrState},
		{[]int{0, 3, 0, 4}, api.ErrClash},
		{[]int{0, 3, 1, 4, 3}, api.ErrState},
	}
	for _, c := range cases {
		failExcess(t, b, c.gone, nil, c.want)
		// Those that go are asked ahead of those that come.
		failExcess(t, b, c.gone, slices.Repeat([]api.Spot{base}, 13), c.want)
		failExcess(t, b, c.gone, []api.Spot{wide}, c.want)
		failExcess(t, b, c.gone, []api.Spot{whole}, c.want)
	}
	checkBook(t, b, m)
}

func TestExcessOfMoreThanMayCome(t *testing.T) {
	w, p := newWorld(t), pick(8)
	b, m := spent(t, w)
	for _, gone := range [][]int{nil, {0}, {0, 3}} {
		checkExcess(t, b, m, gone, p.coins(w, 12))
		for _, many := range []int{13, 14, 24, 256, 256 + 12, 1001, 1 << 16} {
			failExcess(t, b, gone, slices.Repeat([]api.Spot{base}, many), api.ErrFull)
			failExcess(t, b, gone, slices.Repeat([]api.Spot{off}, many), api.ErrFull)
			failExcess(t, b, gone, slices.Repeat([]api.Spot{four}, many), api.ErrFull)
		}
	}
	checkBook(t, b, m)
}

func TestExcessOfWhatMayBeNoCoin(t *testing.T) {
	w, p := newWorld(t), pick(9)
	b, m := spent(t, w)
	for _, s := range noCoins() {
		for _, gone := range [][]int{nil, {0}, {3, 0}} {
			for _, many := range []int{1, 3, 12} {
				l := p.coins(w, many)
				l[p.below(many)] = s
				failExcess(t, b, gone, l, api.ErrShape)
				l[0], l[many-1] = s, wide
				failExcess(t, b, gone, l, api.ErrShape)
			}
		}
	}
	// Also where those that come add up to one that counts.
	failExcess(t, b, nil, []api.Spot{flat, flat}, api.ErrShape)
	checkBook(t, b, m)
}

// As many go as there are: of 1000 coins no place is lost.
func TestExcessOfAFullBook(t *testing.T) {
	w, p := newWorld(t), pick(10)
	b, m := grown(t, w, &p, 1000)
	checkExcess(t, b, m, m.live, p.coins(w, 12))
	failExcess(t, b, append(slices.Clone(m.live), m.live[0]), nil, api.ErrClash)
	failExcess(t, b, append(slices.Clone(m.live), 1000), nil, api.ErrRange)
	checkExcess(t, b, m, []int{999}, nil)
}

func TestExcessIsAsOfTheMirror(t *testing.T) {
	w, p := newWorld(t), pick(11)
	for range 40 {
		b, m := grown(t, w, &p, 1+p.below(40))
		for range 60 {
			gone, come := p.some(m), p.coins(w, p.below(15))
			if p.below(4) == 0 && len(come) > 0 {
				come[p.below(len(come))] = w.row[p.below(4052)]
			}
			checkExcess(t, b, m, gone, come)
		}
		checkBook(t, b, m)
	}
}

// some places, of which some may be none, or gone, or there twice.
func (p *pick) some(m *mirror) (l []int) {
	for range p.below(5) {
		switch p.below(9) {
		case 0:
			l = append(l, p.below(len(m.coins)+2)-1)
		default:
			l = append(l, m.live[p.below(len(m.live))])
		}
	}
	return l
}

func TestDoByHand(t *testing.T) {
	b, err := New([]api.Spot{{X: 3664, Y: 896}, {X: 2654, Y: 715}})
	if err != nil {
		t.Fatal(err)
	}
	first := api.Deal{
		Gone: []int{0},
		New:  []api.Spot{{X: 306, Y: 2336}, {X: 847, Y: 1517}, {X: 2307, Y: 1341}},
		Seal: api.Seal{R: api.Spot{X: 957, Y: 2358}, S: 206},
	}
	next := api.Deal{
		Gone: []int{1, 3},
		New:  []api.Spot{{X: 3664, Y: 3155}},
		Seal: api.Seal{R: api.Spot{X: 1938, Y: 3833}, S: 483},
	}
	if err := b.Do(next); plain.Told(err) != api.ErrRange {
		t.Errorf("Do of a coin that is to come: %v, want ErrRange", err)
	}
	if err := b.Do(first); err != nil {
		t.Errorf("Do: %v", err)
	}
	if live, total := b.Live(), b.Total(); !slices.Equal(live, []int{1, 2, 3, 4}) || total != (api.Spot{X: 1028, Y: 2290}) {
		t.Errorf("behind the first %v, %v", live, total)
	}
	if err := b.Do(first); plain.Told(err) != api.ErrState {
		t.Errorf("Do of a coin that has gone: %v, want ErrState", err)
	}
	if err := b.Do(next); err != nil {
		t.Errorf("Do: %v", err)
	}
	if live, total := b.Live(), b.Total(); !slices.Equal(live, []int{2, 4, 5}) || total != (api.Spot{X: 511, Y: 2273}) {
		t.Errorf("behind both %v, %v", live, total)
	}
	want := []api.Spot{{X: 3664, Y: 896}, {X: 2654, Y: 715}, {X: 306, Y: 2336}, {X: 847, Y: 1517}, {X: 2307, Y: 1341}, {X: 3664, Y: 3155}}
	if got := b.Coins(); !slices.Equal(got, want) {
		t.Errorf("Coins is %v, want %v", got, want)
	}
}

func TestDoOfNothing(t *testing.T) {
	w := newWorld(t)
	b, m := spent(t, w)
	for range 2 {
		checkDo(t, b, m, api.Deal{Seal: w.closed(0, 29, far)})
		checkDo(t, b, m, api.Deal{Gone: []int{}, New: []api.Spot{}, Seal: api.Seal{R: far}})
		checkBook(t, b, m)
	}
	// R of a deal without anything is a spot, but it does not count.
	failDo(t, b, m, api.Deal{}, api.ErrWrong)
	failDo(t, b, m, api.Deal{Seal: api.Seal{R: far, S: 1}}, api.ErrWrong)
}

func TestDoOfAllThatThereIs(t *testing.T) {
	w := newWorld(t)
	b, m := spent(t, w)
	checkDo(t, b, m, m.deal(t, []int{3, 0}, nil, 77))
	checkBook(t, b, m)
	if len(b.Live()) != 0 || b.Total() != far || len(b.Coins()) != 4 {
		t.Errorf("all have gone, and there are %v, %v, %v", b.Live(), b.Total(), b.Coins())
	}
	checkDo(t, b, m, m.deal(t, nil, []api.Spot{base, far, base}, 78))
	checkBook(t, b, m)
}

func TestDoWithEachK(t *testing.T) {
	w, p := newWorld(t), pick(12)
	b, m := opened(t, w, base)
	for k := 1; k < 1013; k++ {
		if len(m.coins) > 999 {
			b, m = opened(t, w, p.coin(w))
		}
		checkDo(t, b, m, m.deal(t, m.live, p.coins(w, 1), k))
	}
	checkBook(t, b, m)
}

// What Close tells of the number that is left is done.
func TestDoOfWhatIsClosed(t *testing.T) {
	w, p := newWorld(t), pick(13)
	b, m := opened(t, w, w.hidden(9, 100))
	for n := range 500 {
		old, next := w.by[m.coins[n]], p.below(1013)
		come := []api.Spot{w.hidden(0, next)}
		e, err := b.Excess([]int{n}, come)
		if err != nil {
			t.Fatal(err)
		}
		s, err := Close((next+1013-old)%1013, 1+p.below(1012), e)
		if err != nil {
			t.Fatal(err)
		}
		checkDo(t, b, m, api.Deal{Gone: []int{n}, New: come, Seal: s})
	}
	checkBook(t, b, m)
}

func TestDoWithEachOtherS(t *testing.T) {
	w := newWorld(t)
	b, m := spent(t, w)
	d := m.deal(t, []int{3}, []api.Spot{base, second}, 300)
	right := d.Seal.S
	for s := range 1013 {
		if d.Seal.S = s; s != right {
			failDo(t, b, m, d, api.ErrWrong)
		}
	}
	d.Seal.S = right
	checkDo(t, b, m, d)
	checkBook(t, b, m)
}

func TestDoWithEachOtherR(t *testing.T) {
	w := newWorld(t)
	base3 := []api.Spot{base, second, w.hidden(3, 0)}
	b, m := opened(t, w, base3...)
	d := m.deal(t, []int{1}, []api.Spot{minus}, 300)
	e, _ := m.excess(d.Gone, d.New)
	done := 0
	for _, s := range w.row {
		d.Seal.R = s
		if !w.right(d.Seal, e) {
			failDo(t, b, m, d, api.ErrWrong)
			continue
		}
		done++
		checkDo(t, b, m, d)
		b, m = opened(t, w, base3...)
	}
	if done == 0 {
		t.Errorf("with no R it is done")
	}
}

func TestDoWithAnotherExcess(t *testing.T) {
	w := newWorld(t)
	b, m := opened(t, w, w.hidden(5, 29), w.hidden(7, 300), w.hidden(11, 77))
	come := []api.Spot{w.hidden(12, 400), w.hidden(1, 3)}
	d := m.deal(t, []int{0, 1}, come, 506)
	for _, gone := range [][]int{nil, {0}, {1}, {0, 2}, {2, 1}, {0, 1, 2}} {
		failDo(t, b, m, api.Deal{Gone: gone, New: come, Seal: d.Seal}, api.ErrWrong)
	}
	for _, l := range [][]api.Spot{nil, come[:1], come[1:], {come[0], base}, append(come, base), {w.hidden(12, 401), come[1]}, {w.hidden(13, 400), come[1]}} {
		failDo(t, b, m, api.Deal{Gone: d.Gone, New: l, Seal: d.Seal}, api.ErrWrong)
	}
	// In another order, and with one that is nothing, it is the same.
	checkDo(t, b, m, api.Deal{Gone: []int{1, 0}, New: []api.Spot{come[1], far, come[0]}, Seal: d.Seal})
	checkBook(t, b, m)
}

func TestDoWithSAtTheEdges(t *testing.T) {
	w := newWorld(t)
	for _, s := range []int{0, 1, 1012} {
		b, m := spent(t, w)
		d := dealWith(t, m, s)
		// As good modulo Q, but out of range.
		for _, other := range []int{s + 1013, s - 1013, s + 4052, s - 4052, s + 1013<<40} {
			failDo(t, b, m, api.Deal{Gone: d.Gone, New: d.New, Seal: api.Seal{R: d.Seal.R, S: other}}, api.ErrRange)
		}
		checkDo(t, b, m, d)
		checkBook(t, b, m)
	}
}

// dealWith has a deal that is closed as it should be, and whose S is a given one.
func dealWith(t *testing.T, m *mirror, s int) api.Deal {
	t.Helper()
	for v := range 1013 {
		for k := 1; k < 1013; k++ {
			if d := m.deal(t, []int{0}, []api.Spot{m.w.hidden(v, 1)}, k); d.Seal.S == s {
				return d
			}
		}
	}
	t.Fatalf("no seal has an S of %d", s)
	return api.Deal{}
}

func TestDoWithSOutOfRange(t *testing.T) {
	w := newWorld(t)
	b, m := spent(t, w)
	d := m.deal(t, []int{0}, []api.Spot{base}, 1)
	for _, n := range outside() {
		d.Seal.S = n
		failDo(t, b, m, d, api.ErrRange)
	}
}

// By the words of the document R may be Far, though Close never tells it so.
func TestDoWithRFar(t *testing.T) {
	w := newWorld(t)
	b, m := spent(t, w)
	e, _ := m.excess([]int{0}, []api.Spot{base})
	d := api.Deal{Gone: []int{0}, New: []api.Spot{base}, Seal: api.Seal{R: far, S: asked(far, e) * w.by[e] % 1013}}
	for s := range 1013 {
		if s != d.Seal.S {
			failDo(t, b, m, api.Deal{Gone: d.Gone, New: d.New, Seal: api.Seal{R: far, S: s}}, api.ErrWrong)
		}
	}
	checkDo(t, b, m, d)
	checkBook(t, b, m)
}

// One that does not count is no fault by itself, but nothing is right with it.
func TestDoWithRThatDoesNotCount(t *testing.T) {
	w := newWorld(t)
	b, m := spent(t, w)
	d := m.deal(t, []int{0}, []api.Spot{base}, 29)
	e, _ := m.excess(d.Gone, d.New)
	for _, r := range append(beside(), w.sum(d.Seal.R, w.row[1013]), w.sum(d.Seal.R, w.row[2026]), w.sum(d.Seal.R, w.row[3039])) {
		for s := range 1013 {
			if w.right(api.Seal{R: r, S: s}, e) {
				t.Fatalf("%v is right with %d", r, s)
			}
		}
		for _, s := range append(edges(), d.Seal.S) {
			failDo(t, b, m, api.Deal{Gone: d.Gone, New: d.New, Seal: api.Seal{R: r, S: s}}, api.ErrWrong)
		}
	}
}

func TestDoWithAWrongR(t *testing.T) {
	w := newWorld(t)
	b, m := spent(t, w)
	d := m.deal(t, []int{0}, []api.Spot{base}, 29)
	for _, a := range wrongs() {
		for _, s := range []int{0, d.Seal.S, 1012} {
			failDo(t, b, m, api.Deal{Gone: d.Gone, New: d.New, Seal: api.Seal{R: a.s, S: s}}, a.want)
		}
		// What S is is told ahead of it.
		for _, s := range outside() {
			failDo(t, b, m, api.Deal{Gone: d.Gone, New: d.New, Seal: api.Seal{R: a.s, S: s}}, api.ErrRange)
		}
	}
}

func TestDoUpToMaxCoin(t *testing.T) {
	w, p := newWorld(t), pick(14)
	for _, many := range []int{988, 990, 999, 1000} {
		b, m := grown(t, w, &p, many)
		room := 1000 - many
		for come := room + 1; come <= 12; come++ {
			// What has gone, or goes in this deal, makes no room.
			failDo(t, b, m, m.deal(t, nil, p.coins(w, come), 5), api.ErrFull)
			failDo(t, b, m, m.deal(t, m.live, p.coins(w, come), 6), api.ErrFull)
		}
		checkDo(t, b, m, m.deal(t, m.live[:2], p.coins(w, room), 7))
		checkBook(t, b, m)
		failDo(t, b, m, m.deal(t, nil, []api.Spot{far}, 8), api.ErrFull)
		// Those that there are may still go.
		checkDo(t, b, m, m.deal(t, m.live[1:], nil, 9))
		checkBook(t, b, m)
		failDo(t, b, m, m.deal(t, m.live, p.coins(w, 1), 10), api.ErrFull)
	}
}

func TestDoTellsTheErrorsOfExcess(t *testing.T) {
	w := newWorld(t)
	b, m := spent(t, w)
	seals := []api.Seal{w.closed(0, 5, far), {}, {R: wide, S: -1}, {R: off}, {R: far, S: 1013}}
	for _, s := range seals {
		for _, gone := range [][]int{{4}, {-1}, {0, math.MaxInt}, {math.MinInt, 1}} {
			failDo(t, b, m, api.Deal{Gone: gone, Seal: s}, api.ErrRange)
		}
		for _, gone := range [][]int{{1}, {2, 0}, {0, 2, 9}, {1, 1}} {
			failDo(t, b, m, api.Deal{Gone: gone, Seal: s}, api.ErrState)
		}
		for _, gone := range [][]int{{0, 0}, {3, 0, 3}, {3, 3, 1}} {
			failDo(t, b, m, api.Deal{Gone: gone, Seal: s}, api.ErrClash)
		}
		failDo(t, b, m, api.Deal{Gone: []int{0}, New: slices.Repeat([]api.Spot{far}, 13), Seal: s}, api.ErrFull)
		for _, o := range noCoins() {
			failDo(t, b, m, api.Deal{Gone: []int{0}, New: []api.Spot{base, o}, Seal: s}, api.ErrShape)
		}
	}
}

// All faults at once, and each lot of them: the first that the document names is told.
func TestDoTellsOfTheFirst(t *testing.T) {
	w, p := newWorld(t), pick(15)
	small, mirrored := spent(t, w)
	large, also := grown(t, w, &p, 1000)
	faults := []struct {
		lay  func(d *api.Deal, m *mirror)
		want api.Errno
	}{
		{func(d *api.Deal, m *mirror) { d.Gone = append(d.Gone, len(m.coins)) }, api.ErrRange},
		{func(d *api.Deal, m *mirror) { d.Gone = append(d.Gone, goneOf(m)) }, api.ErrState},
		{func(d *api.Deal, m *mirror) { d.Gone = append(d.Gone, d.Gone[0]) }, api.ErrClash},
		{func(d *api.Deal, m *mirror) { d.New = slices.Repeat(d.New, 13) }, api.ErrFull},
		{func(d *api.Deal, m *mirror) { d.New[len(d.New)-1] = wide }, api.ErrShape},
		{func(d *api.Deal, m *mirror) { d.New[0] = whole }, api.ErrShape},
		{nil, api.ErrFull},
		{func(d *api.Deal, m *mirror) { d.Seal.S = 1013 }, api.ErrRange},
		{func(d *api.Deal, m *mirror) { d.Seal.R = off }, api.ErrShape},
		{func(d *api.Deal, m *mirror) { d.Seal.R.Far = !d.Seal.R.Far }, api.ErrRange},
	}
	for lot := 1; lot < 1<<len(faults); lot++ {
		b, m := small, mirrored
		// The fault without a hand of its own is that of a book that is full.
		if lot>>6&1 == 1 {
			b, m = large, also
		}
		// The last two are of one thing: both at once would be another fault of it.
		if lot>>8&3 == 3 {
			continue
		}
		d := m.deal(t, []int{m.live[0]}, []api.Spot{base}, 29)
		want := api.OK
		for k, f := range faults {
			if lot>>k&1 == 0 {
				continue
			}
			if f.lay != nil {
				f.lay(&d, m)
			}
			if want == api.OK {
				want = f.want
			}
		}
		if fault := (&mirror{w: w, coins: m.coins, live: m.live}).do(d); fault != want {
			t.Fatalf("lot %b: the mirror tells %v, want %v", lot, fault, want)
		}
		if err := b.Do(d); plain.Told(err) != want {
			t.Errorf("lot %b: Do(%v) is %v, want %v", lot, d, err, want)
		}
	}
	checkBook(t, small, mirrored)
	checkBook(t, large, also)
}

// goneOf a book is a coin of it that has gone.
func goneOf(m *mirror) int {
	for place := range m.coins {
		if !slices.Contains(m.live, place) {
			return place
		}
	}
	return -1
}

func TestDoIsAsOfTheMirror(t *testing.T) {
	w, p := newWorld(t), pick(16)
	told := map[api.Errno]int{}
	for range 12 {
		b, m := opened(t, w, p.coins(w, 1+p.below(12))...)
		for range 150 {
			d := p.deal(w, m)
			checkExcess(t, b, m, d.Gone, d.New)
			want := m.do(d)
			if err := b.Do(d); plain.Told(err) != want {
				t.Fatalf("Do(%v) is %v, want %v", d, err, want)
			}
			told[want]++
			checkBook(t, b, m)
			if len(m.live) == 0 {
				checkDo(t, b, m, m.deal(t, nil, p.coins(w, 3), 4))
			}
		}
	}
	for _, e := range []api.Errno{api.OK, api.ErrRange, api.ErrShape, api.ErrFull, api.ErrState, api.ErrClash, api.ErrWrong} {
		if told[e] < 10 {
			t.Errorf("%v was told %d times, want more", e, told[e])
		}
	}
}

// deal of any kind: most are right.
func (p *pick) deal(w world, m *mirror) api.Deal {
	d := api.Deal{Gone: p.some(m), New: p.coins(w, p.below(4))}
	if p.below(12) == 0 {
		d.New = p.coins(w, 10+p.below(5))
	}
	if p.below(12) == 0 {
		d.New = append(d.New, w.row[p.below(4052)])
	}
	e, _ := m.excess(d.Gone, d.New)
	if w.counts(e) {
		d.Seal = w.sealed(e, 1+p.below(1012))
	}
	switch p.below(12) {
	case 0:
		d.Seal.S = p.below(1020) - 3
	case 1:
		d.Seal.R = w.row[p.below(4052)]
	case 2:
		d.Seal.R.Y = p.below(4060) - 3
	}
	return d
}

// numbered is a coin of which it is known what it hides, and by what.
type numbered struct{ v, r int }

func (n numbered) spot(t *testing.T) api.Spot {
	t.Helper()
	s, err := hide.Hide(n.v, n.r)
	if err != nil {
		t.Fatalf("Hide(%d, %d): %v", n.v, n.r, err)
	}
	return s
}

// left is what is left of values and numbers, modulo Q.
func left(come, gone []numbered) (v, r int) {
	for _, c := range come {
		v, r = v+c.v, r+c.r
	}
	for _, g := range gone {
		v, r = v+1013-g.v, r+1013-g.r
	}
	return v % 1013, r % 1013
}

// settled is a deal of coins that are known, closed by what is left of their numbers.
func settled(t *testing.T, b *Book, places []int, gone, come []numbered, k int) api.Deal {
	t.Helper()
	d := api.Deal{Gone: places}
	for _, c := range come {
		d.New = append(d.New, c.spot(t))
	}
	e, err := b.Excess(d.Gone, d.New)
	if err != nil {
		t.Fatalf("Excess(%v, %v): %v", d.Gone, d.New, err)
	}
	_, r := left(come, gone)
	if d.Seal, err = Close(r, k, e); err != nil {
		t.Fatalf("Close(%d, %d, %v): %v", r, k, e, err)
	}
	return d
}

// Coins whose values go and come alike are dealt, others are not, and what is live has the same value all along.
func TestNothingComesOfNothing(t *testing.T) {
	w, p := newWorld(t), pick(17)
	all := []numbered{{100, p.below(1013)}, {0, p.below(1013)}, {1012, p.below(1013)}, {7, 0}}
	b, m := opened(t, w, all[0].spot(t), all[1].spot(t), all[2].spot(t), all[3].spot(t))
	for range 100 {
		one, two := m.live[p.below(len(m.live))], m.live[p.below(len(m.live))]
		places := []int{one, two}
		if one == two {
			places = places[:1]
		}
		var gone []numbered
		for _, place := range places {
			gone = append(gone, all[place])
		}
		v, _ := left(gone, nil)
		part := p.below(1013)
		come := []numbered{{part, p.below(1013)}, {(v + 1013 - part) % 1013, p.below(1013)}}
		more := []numbered{come[0], {(come[1].v + 1 + p.below(1012)) % 1013, come[1].r}}
		k := 1 + p.below(1012)
		over := settled(t, b, places, gone, more, k)
		// A challenge of 0 would ask for nothing.
		if e, _ := m.excess(over.Gone, over.New); asked(over.Seal.R, e) != 0 {
			failDo(t, b, m, over, api.ErrWrong)
		}
		d := settled(t, b, places, gone, come, k)
		checkDo(t, b, m, d)
		checkBook(t, b, m)
		all = append(all, come...)
		failDo(t, b, m, d, api.ErrState)
	}
	var live []numbered
	for _, place := range b.Live() {
		live = append(live, all[place])
	}
	v, r := left(live, nil)
	if ok, err := hide.Open(b.Total(), v, r); v != 106 || !ok || err != nil {
		t.Errorf("Total %v is of %d by %d: %v, %v, want a value of 106", b.Total(), v, r, ok, err)
	}
}

// By the words of the document a challenge of 0 asks nothing of the excess, so that S is that of R alone.
func TestDoWithAChallengeOfNothing(t *testing.T) {
	w := newWorld(t)
	done := 0
	for v := 1; v < 1013; v++ {
		for k := 1; k < 1013; k += 7 {
			e, r := w.hidden(v, 0), w.hidden(0, k)
			if asked(r, e) != 0 {
				continue
			}
			b, m := opened(t, w)
			failDo(t, b, m, api.Deal{New: []api.Spot{e}, Seal: api.Seal{R: r, S: (k + 1) % 1013}}, api.ErrWrong)
			checkDo(t, b, m, api.Deal{New: []api.Spot{e}, Seal: api.Seal{R: r, S: k}})
			checkBook(t, b, m)
			done++
		}
	}
	if done == 0 {
		t.Errorf("no challenge is 0")
	}
}

func TestACoinThatHasGoneCannotGoAgain(t *testing.T) {
	w := newWorld(t)
	b, m := opened(t, w, base, base, second)
	d := m.deal(t, []int{0}, []api.Spot{base}, 29)
	checkDo(t, b, m, d)
	failDo(t, b, m, d, api.ErrState)
	// Another deal of it is no better, and one like it that is live may go.
	failDo(t, b, m, api.Deal{Gone: []int{0, 1}, Seal: d.Seal}, api.ErrState)
	failDo(t, b, m, api.Deal{Gone: []int{1, 0}, Seal: d.Seal}, api.ErrState)
	checkDo(t, b, m, api.Deal{Gone: []int{1}, New: []api.Spot{base}, Seal: d.Seal})
	checkDo(t, b, m, api.Deal{Gone: []int{3}, New: []api.Spot{base}, Seal: d.Seal})
	failDo(t, b, m, api.Deal{Gone: []int{3}, New: []api.Spot{base}, Seal: d.Seal}, api.ErrState)
	checkBook(t, b, m)
}

// What was refused may be done later, when it is right: nothing of it was left behind.
func TestWhatIsRefusedLeavesNothing(t *testing.T) {
	w, p := newWorld(t), pick(18)
	b, m := spent(t, w)
	d := m.deal(t, []int{0, 3}, p.coins(w, 12), 300)
	again := func(gone []int, come []api.Spot, s api.Seal) {
		t.Helper()
		if b.Do(api.Deal{Gone: gone, New: come, Seal: s}) == nil {
			t.Fatalf("Do of %v, %v, %v is done", gone, come, s)
		}
		checkBook(t, b, m)
	}
	again(d.Gone, d.New, api.Seal{R: d.Seal.R, S: (d.Seal.S + 1) % 1013})
	again(d.Gone, d.New, api.Seal{R: d.Seal.R, S: -1})
	again(d.Gone, d.New, api.Seal{R: off, S: d.Seal.S})
	again(append(slices.Clone(d.Gone), 1), d.New, d.Seal)
	again(append(slices.Clone(d.Gone), 0), d.New, d.Seal)
	again(append(slices.Clone(d.Gone), 4), d.New, d.Seal)
	again(d.Gone, append(slices.Clone(d.New), base), d.Seal)
	again(d.Gone, append(slices.Clone(d.New[1:]), four), d.Seal)
	failExcess(t, b, []int{0, 3, 0}, nil, api.ErrClash)
	checkExcess(t, b, m, []int{0, 3}, nil)
	checkDo(t, b, m, d)
	checkBook(t, b, m)
}

// spare has a list with more memory behind it, and that memory whole.
func spare[T any](l []T, behind ...T) (list, all []T) {
	all = slices.Concat(l, behind)
	return all[:len(l)], all
}

func TestNewKeepsNoList(t *testing.T) {
	w := newWorld(t)
	list, all := spare([]api.Spot{base, second}, wide, off)
	before := slices.Clone(all)
	b, m := opened(t, w, base, second)
	b, err := New(list)
	if err != nil || !slices.Equal(all, before) {
		t.Fatalf("New: %v, and the list is %v", err, all)
	}
	clear(all)
	checkBook(t, b, m)
	checkDo(t, b, m, m.deal(t, []int{1}, []api.Spot{minus}, 5))
	checkBook(t, b, m)
	if !slices.Equal(all, make([]api.Spot, 4)) {
		t.Errorf("the list is written into: %v", all)
	}
}

func TestExcessAndDoKeepNoList(t *testing.T) {
	w := newWorld(t)
	b, m := opened(t, w, base, second, minus)
	gone, allGone := spare([]int{2, 0}, -1, 0)
	come, allCome := spare([]api.Spot{second, base}, wide, off)
	wasGone, wasCome := slices.Clone(allGone), slices.Clone(allCome)
	d := m.deal(t, slices.Clone(gone), slices.Clone(come), 5)
	if _, err := b.Excess(gone, come); err != nil {
		t.Errorf("Excess: %v", err)
	}
	checkDo(t, b, m, d)
	b, err := New([]api.Spot{base, second, minus})
	if err != nil {
		t.Fatal(err)
	}
	if err := b.Do(api.Deal{Gone: gone, New: come, Seal: d.Seal}); err != nil {
		t.Errorf("Do: %v", err)
	}
	if !slices.Equal(allGone, wasGone) || !slices.Equal(allCome, wasCome) {
		t.Errorf("the lists are written into: %v, %v", allGone, allCome)
	}
	clear(allGone)
	clear(allCome)
	checkBook(t, b, m)
	checkDo(t, b, m, m.deal(t, []int{3}, []api.Spot{minus}, 6))
	checkBook(t, b, m)
	if !slices.Equal(allGone, make([]int, 4)) || !slices.Equal(allCome, make([]api.Spot, 4)) {
		t.Errorf("the lists are written into later: %v, %v", allGone, allCome)
	}
}

func TestWhatIsToldIsTheCallers(t *testing.T) {
	w := newWorld(t)
	b, m := spent(t, w)
	live, coins := b.Live(), b.Coins()
	keptLive, keptCoins := slices.Clone(b.Live()), slices.Clone(b.Coins())
	for _, l := range [][]int{b.Live(), b.Live()} {
		clear(l)
		l = l[:cap(l)]
		clear(l)
		_ = append(l[:0], 7, 7, 7)
	}
	for _, l := range [][]api.Spot{b.Coins(), b.Coins()} {
		clear(l)
		l = l[:cap(l)]
		clear(l)
		_ = append(l[:0], wide, wide)
	}
	checkBook(t, b, m)
	checkDo(t, b, m, m.deal(t, []int{0}, []api.Spot{minus, second}, 6))
	checkBook(t, b, m)
	// What was told ahead does not change by a deal.
	if !slices.Equal(live, keptLive) || !slices.Equal(coins, keptCoins) {
		t.Errorf("what was told has changed: %v, %v", live, coins)
	}
}

func TestBooksAreApart(t *testing.T) {
	w := newWorld(t)
	coins := []api.Spot{base, second, minus}
	one, first := opened(t, w, coins...)
	two, other := opened(t, w, coins...)
	checkDo(t, one, first, first.deal(t, []int{0, 2}, []api.Spot{far}, 5))
	checkBook(t, one, first)
	checkBook(t, two, other)
	checkDo(t, two, other, other.deal(t, []int{1}, []api.Spot{second, second}, 6))
	checkBook(t, one, first)
	checkBook(t, two, other)
}

// Live rises, also where those that went were in between, and Total is of those alone.
func TestLiveAndTotalByHand(t *testing.T) {
	w := newWorld(t)
	b, m := opened(t, w, w.hidden(1, 0), w.hidden(2, 0), w.hidden(3, 0), w.hidden(4, 0))
	if got := b.Total(); got != w.hidden(10, 0) {
		t.Errorf("Total is %v, want %v", got, w.hidden(10, 0))
	}
	checkDo(t, b, m, m.deal(t, []int{2, 0}, []api.Spot{w.hidden(100, 0), w.hidden(5, 0)}, 5))
	checkDo(t, b, m, m.deal(t, []int{4}, nil, 5))
	if got := b.Live(); !slices.Equal(got, []int{1, 3, 5}) {
		t.Errorf("Live is %v, want 1, 3 and 5", got)
	}
	if got := b.Total(); got != w.hidden(11, 0) {
		t.Errorf("Total is %v, want %v", got, w.hidden(11, 0))
	}
	want := []api.Spot{w.hidden(1, 0), w.hidden(2, 0), w.hidden(3, 0), w.hidden(4, 0), w.hidden(100, 0), w.hidden(5, 0)}
	if got := b.Coins(); !slices.Equal(got, want) {
		t.Errorf("Coins is %v, want %v", got, want)
	}
}
