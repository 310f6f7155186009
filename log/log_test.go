package log

import (
	"math"
	"slices"
	"testing"

	"pairstone/api"
	"pairstone/book"
	"pairstone/curve"
	"pairstone/hide"
	"pairstone/plain"
	"pairstone/times"
)

var (
	far    = api.Spot{Far: true}
	base   = api.Spot{X: 1189, Y: 3667}
	minus  = api.Spot{X: 1189, Y: 384}
	second = api.Spot{X: 607, Y: 1325}
	// flat, four, twice and whole are on the curve but do not count: their orders are 2, 4, twice Q and Whole.
	flat  = api.Spot{}
	four  = api.Spot{X: 4050, Y: 90}
	twice = api.Spot{X: 3180, Y: 1220}
	whole = api.Spot{X: 107, Y: 3793}
	// wide has a number out of range, and off is beside the curve.
	wide = api.Spot{X: 4051}
	off  = api.Spot{X: 1189, Y: 3666}
)

// all is more bytes than any log here has.
const all = 1 << 30

// world has the spots that count, each with how many times Second it is.
type world struct {
	row []api.Spot
	by  map[api.Spot]int
}

func newWorld(t *testing.T) world {
	t.Helper()
	w := world{by: map[api.Spot]int{}}
	for n := range 1013 {
		s, err := times.Times(hide.Second(), n)
		if err != nil {
			t.Fatalf("Times(%d): %v", n, err)
		}
		w.row = append(w.row, s)
		w.by[s] = n
	}
	if len(w.by) != 1013 {
		t.Fatalf("%d spots count, want 1013", len(w.by))
	}
	return w
}

// sealed is a deal with a seal that is right: the number of the excess is found, as the curve is small.
func (w world) sealed(t *testing.T, b *book.Book, gone []int, come []api.Spot, k int) api.Deal {
	t.Helper()
	e, err := b.Excess(gone, come)
	if err != nil {
		t.Fatalf("Excess(%v, %v): %v", gone, come, err)
	}
	s, err := book.Close(w.by[e], k, e)
	if err != nil {
		t.Fatalf("Close(%d, %d, %v): %v", w.by[e], k, e, err)
	}
	return api.Deal{Gone: gone, New: come, Seal: s}
}

// pick is a row of numbers that look as if by chance, the same ones each time.
type pick int

func (p *pick) below(n int) int {
	*p = (*p*1103515245 + 12345) & (1<<31 - 1)
	return int(*p>>8) % n
}

func (p *pick) coins(w world, many int) (l []api.Spot) {
	for range many {
		l = append(l, w.row[p.below(1013)])
	}
	return l
}

// deal that is right for a book: some of its first coins go, some come, of both often none.
func (p *pick) deal(t *testing.T, w world, b *book.Book) api.Deal {
	t.Helper()
	live := b.Live()
	var gone []int
	for range p.below(4) {
		if len(live) > 0 {
			at := p.below(len(live))
			gone = append(gone, live[at])
			live = slices.Delete(live, at, at+1)
		}
	}
	return w.sealed(t, b, gone, p.coins(w, p.below(4)), 1+p.below(1012))
}

// record of a deal, as the mirror sees it: which bytes, is free.
type record struct {
	deal api.Deal
	size int
}

// mirror is what a log has to be by the words of the document.
type mirror struct {
	coins []api.Spot
	// done are the whole records, and half is how many bytes of a half one are behind them.
	done []record
	half int
	safe int
	// fail is what Fail said last, below 0 if nothing, and since is how many steps were done behind it.
	fail    int
	since   int
	stopped bool
}

func (m *mirror) bytes() int {
	n := m.half
	for _, r := range m.done {
		n += r.size
	}
	return n
}

// book that comes of New's coins by the whole records.
func (m *mirror) book(t *testing.T) *book.Book {
	t.Helper()
	b, err := book.New(m.coins)
	if err != nil {
		t.Fatalf("book.New(%v): %v", m.coins, err)
	}
	for _, r := range m.done {
		if err := b.Do(r.deal); err != nil {
			t.Fatalf("book.Do(%v): %v", r.deal, err)
		}
	}
	return b
}

// size of a deal's record is told by a log in which nothing fails.
func (m *mirror) size(t *testing.T, d api.Deal) int {
	t.Helper()
	l, err := New(m.coins)
	if err != nil {
		t.Fatalf("New(%v): %v", m.coins, err)
	}
	for _, r := range m.done {
		if err := l.Do(r.deal); err != nil {
			t.Fatalf("Do(%v): %v", r.deal, err)
		}
	}
	was := l.Bytes()
	if err := l.Do(d); err != nil {
		t.Fatalf("Do(%v): %v", d, err)
	}
	return l.Bytes() - was
}

// step tells whether it is the one that stops.
func (m *mirror) step() bool {
	m.stopped = m.since == m.fail
	m.since++
	return m.stopped
}

func (m *mirror) do(t *testing.T, d api.Deal) api.Errno {
	t.Helper()
	if m.stopped {
		return api.ErrState
	}
	if err := m.book(t).Do(d); err != nil {
		return plain.Told(err)
	}
	size := m.size(t, d)
	if m.step() {
		m.half = size / 2
		return api.ErrState
	}
	m.done = append(m.done, record{copied(d), size})
	return api.OK
}

func (m *mirror) sync() api.Errno {
	if m.stopped || m.step() {
		return api.ErrState
	}
	m.safe = m.bytes()
	return api.OK
}

func (m *mirror) crash(keep int) {
	if keep > m.bytes()-m.safe {
		keep = m.bytes() - m.safe
	}
	if keep < 0 {
		keep = 0
	}
	left := m.safe + keep
	m.safe, m.half, m.stopped, m.fail = 0, 0, false, -1
	for k, r := range m.done {
		if m.safe+r.size > left {
			m.done = m.done[:k]
			return
		}
		m.safe += r.size
	}
}

// copied is a deal that shares no list with another.
func copied(d api.Deal) api.Deal {
	d.Gone, d.New = slices.Clone(d.Gone), slices.Clone(d.New)
	return d
}

// opened is a log, and what it has to be.
func opened(t *testing.T, coins ...api.Spot) (*Log, *mirror) {
	t.Helper()
	l, err := New(coins)
	if l == nil || err != nil {
		t.Fatalf("New(%v) is %v, %v", coins, l, err)
	}
	m := &mirror{coins: slices.Clone(coins), fail: -1}
	checkLog(t, l, m)
	return l, m
}

// filled is a log with some deals done, the first ones of them safe.
func filled(t *testing.T, w world, safe, more int) (*Log, *mirror) {
	t.Helper()
	p := pick(safe*100 + more)
	l, m := opened(t, p.coins(w, 5)...)
	for range safe {
		checkDo(t, l, m, p.deal(t, w, m.book(t)), api.OK)
	}
	checkSync(t, l, m, api.OK)
	for range more {
		checkDo(t, l, m, p.deal(t, w, m.book(t)), api.OK)
	}
	return l, m
}

func checkLog(t *testing.T, l *Log, m *mirror) {
	t.Helper()
	b := m.book(t)
	if got, want := l.Live(), b.Live(); !slices.Equal(got, want) {
		t.Errorf("Live is %v, want %v", got, want)
	}
	if got, want := l.Total(), b.Total(); got != want {
		t.Errorf("Total is %v, want %v", got, want)
	}
	if got, want := l.Bytes(), m.bytes(); got != want {
		t.Errorf("Bytes is %d, want %d", got, want)
	}
	if got := l.Safe(); got != m.safe {
		t.Errorf("Safe is %d, want %d", got, m.safe)
	}
}

func checkDo(t *testing.T, l *Log, m *mirror, d api.Deal, want api.Errno) {
	t.Helper()
	if told := m.do(t, d); told != want {
		t.Fatalf("of %v %v is to be told, want %v", d, told, want)
	}
	if err := l.Do(d); plain.Told(err) != want {
		t.Fatalf("Do(%v) is %v, want %v", d, err, want)
	}
	checkLog(t, l, m)
}

func checkSync(t *testing.T, l *Log, m *mirror, want api.Errno) {
	t.Helper()
	if told := m.sync(); told != want {
		t.Fatalf("of Sync %v is to be told, want %v", told, want)
	}
	if err := l.Sync(); plain.Told(err) != want {
		t.Fatalf("Sync is %v, want %v", err, want)
	}
	checkLog(t, l, m)
}

// fail is of both, and changes nothing that is seen at once.
func fail(t *testing.T, l *Log, m *mirror, n int) {
	t.Helper()
	l.Fail(n)
	m.fail, m.since = n, 0
	checkLog(t, l, m)
}

func checkCrash(t *testing.T, l *Log, m *mirror, keep int) {
	t.Helper()
	m.crash(keep)
	l.Crash(keep)
	checkLog(t, l, m)
	if l.Bytes() != l.Safe() {
		t.Errorf("behind Crash(%d) there are %d bytes, of which %d are safe", keep, l.Bytes(), l.Safe())
	}
}

// checkGoesOn is of a log that has not stopped, and in which nothing is to fail: it does what a log does.
func checkGoesOn(t *testing.T, w world, l *Log, m *mirror) {
	t.Helper()
	for k := range 3 {
		checkDo(t, l, m, w.sealed(t, m.book(t), nil, []api.Spot{base}, 5+k), api.OK)
		checkSync(t, l, m, api.OK)
	}
	live := l.Live()
	checkDo(t, l, m, w.sealed(t, m.book(t), live[len(live)-1:], nil, 9), api.OK)
	checkCrash(t, l, m, all)
}

// checkStopped is of a log that has: it refuses all, and nothing of it changes.
func checkStopped(t *testing.T, w world, l *Log, m *mirror) {
	t.Helper()
	if !m.stopped {
		t.Fatalf("the log is not to have stopped")
	}
	for range 3 {
		checkDo(t, l, m, w.sealed(t, m.book(t), nil, []api.Spot{base}, 7), api.ErrState)
		checkSync(t, l, m, api.ErrState)
		// That it has stopped is told ahead of what is wrong with the deal.
		for _, r := range refused(t, w, m.book(t)) {
			checkDo(t, l, m, r.deal, api.ErrState)
		}
		checkDo(t, l, m, w.sealed(t, m.book(t), nil, nil, 7), api.ErrState)
	}
}

// fault is a deal, and what a book tells of it.
type fault struct {
	deal api.Deal
	want api.Errno
}

// refused has a deal for each error of a book that has not too many coins.
func refused(t *testing.T, w world, b *book.Book) []fault {
	t.Helper()
	right := w.sealed(t, b, nil, []api.Spot{base}, 300)
	with := func(change func(d *api.Deal)) api.Deal {
		d := copied(right)
		change(&d)
		return d
	}
	l := []fault{
		{with(func(d *api.Deal) { d.Gone = []int{-1} }), api.ErrRange},
		{with(func(d *api.Deal) { d.Gone = []int{len(b.Coins())} }), api.ErrRange},
		{with(func(d *api.Deal) { d.New = slices.Repeat([]api.Spot{base}, 13) }), api.ErrFull},
		{with(func(d *api.Deal) { d.New[0] = wide }), api.ErrShape},
		{with(func(d *api.Deal) { d.New[0] = off }), api.ErrShape},
		{with(func(d *api.Deal) { d.New[0] = whole }), api.ErrShape},
		{with(func(d *api.Deal) { d.Seal.S = -1 }), api.ErrRange},
		{with(func(d *api.Deal) { d.Seal.S = 1013 }), api.ErrRange},
		{with(func(d *api.Deal) { d.Seal.R = wide }), api.ErrRange},
		{with(func(d *api.Deal) { d.Seal.R = off }), api.ErrShape},
		{with(func(d *api.Deal) { d.Seal.S = (d.Seal.S + 1) % 1013 }), api.ErrWrong},
	}
	if live := b.Live(); len(live) > 0 {
		l = append(l, fault{with(func(d *api.Deal) { d.Gone = []int{live[0], live[0]} }), api.ErrClash})
	}
	for place := range b.Coins() {
		if !slices.Contains(b.Live(), place) {
			return append(l, fault{with(func(d *api.Deal) { d.Gone = []int{place} }), api.ErrState})
		}
	}
	return l
}

func failNew(t *testing.T, coins []api.Spot, want api.Errno) {
	t.Helper()
	if _, err := book.New(coins); plain.Told(err) != want {
		t.Fatalf("of a book of %v %v is told, want %v", coins, err, want)
	}
	if l, err := New(coins); l != nil || plain.Told(err) != want {
		t.Errorf("New(%v) is %v, %v, want %v", coins, l, err, want)
	}
}

func TestNewOfWhatNoBookIsMadeOf(t *testing.T) {
	for _, many := range []int{13, 14, 24, 256, 256 + 12, 1000} {
		failNew(t, slices.Repeat([]api.Spot{base}, many), api.ErrFull)
		failNew(t, slices.Repeat([]api.Spot{wide}, many), api.ErrFull)
	}
	for _, s := range []api.Spot{wide, off, flat, four, twice, whole, {X: -1}, {Y: math.MinInt}, {X: 1, Far: true}} {
		failNew(t, []api.Spot{s}, api.ErrShape)
		for place := range 12 {
			l := slices.Repeat([]api.Spot{base}, 12)
			l[place] = s
			failNew(t, l, api.ErrShape)
		}
	}
}

func TestNewOfEachLength(t *testing.T) {
	w, p := newWorld(t), pick(1)
	for many := range 13 {
		for _, coins := range [][]api.Spot{p.coins(w, many), slices.Repeat([]api.Spot{far}, many), slices.Repeat([]api.Spot{base}, many)} {
			l, m := opened(t, coins...)
			if l.Bytes() != 0 || l.Safe() != 0 || len(l.Live()) != many {
				t.Errorf("a log of %v has %d bytes, %d safe, %v", coins, l.Bytes(), l.Safe(), l.Live())
			}
			checkGoesOn(t, w, l, m)
		}
	}
	for _, coins := range [][]api.Spot{nil, {}} {
		l, _ := opened(t, coins...)
		if l.Total() != far || len(l.Live()) != 0 {
			t.Errorf("a log of no coin has %v, %v", l.Live(), l.Total())
		}
	}
}

// What comes out, told by hand: coins and seals of which the numbers are known.
func TestByHand(t *testing.T) {
	l, err := New([]api.Spot{{X: 2511, Y: 316}, {X: 2761, Y: 2638}})
	if err != nil {
		t.Fatal(err)
	}
	d := api.Deal{
		Gone: []int{0, 1},
		New:  []api.Spot{{X: 3311, Y: 29}, {X: 982, Y: 1516}},
		Seal: api.Seal{R: api.Spot{X: 3136, Y: 137}, S: 234},
	}
	sum, err := curve.Add(d.New[0], d.New[1])
	if err != nil {
		t.Fatal(err)
	}
	is := func(live []int, total api.Spot, safe bool) {
		t.Helper()
		if !slices.Equal(l.Live(), live) || l.Total() != total || (l.Safe() == l.Bytes()) != safe {
			t.Errorf("it is %v, %v, %d, %d, want %v, %v", l.Live(), l.Total(), l.Bytes(), l.Safe(), live, total)
		}
	}
	old := api.Spot{X: 2496, Y: 2578}
	is([]int{0, 1}, old, true)
	if err := l.Do(d); err != nil {
		t.Fatal(err)
	}
	is([]int{2, 3}, sum, false)
	l.Crash(0)
	is([]int{0, 1}, old, true)
	if err := l.Do(d); err != nil {
		t.Fatal(err)
	}
	l.Crash(all)
	is([]int{2, 3}, sum, true)
	if err := l.Do(d); plain.Told(err) != api.ErrState {
		t.Errorf("Do of coins that have gone is %v", err)
	}
	l.Crash(0)
	is([]int{2, 3}, sum, true)
}

func TestDoIsTheBooks(t *testing.T) {
	w, p := newWorld(t), pick(2)
	for many := range 13 {
		l, m := opened(t, p.coins(w, many)...)
		for range 12 {
			checkDo(t, l, m, p.deal(t, w, m.book(t)), api.OK)
			if l.Safe() != 0 {
				t.Errorf("without a Sync %d bytes are safe", l.Safe())
			}
		}
	}
}

func TestARecordHasAtLeastTwoBytes(t *testing.T) {
	w, p := newWorld(t), pick(3)
	l, m := opened(t)
	// Of a deal in which nothing goes and nothing comes there is a record, too.
	nothing := w.sealed(t, m.book(t), nil, nil, 5)
	least := []api.Deal{nothing, {Seal: api.Seal{R: far}}, {Gone: []int{}, New: []api.Spot{}, Seal: nothing.Seal}}
	for range 30 {
		d := least[p.below(3)]
		if p.below(2) == 0 {
			d = p.deal(t, w, m.book(t))
		}
		was := l.Bytes()
		checkDo(t, l, m, d, api.OK)
		if more := l.Bytes() - was; more < 2 {
			t.Errorf("of %v there are %d bytes", d, more)
		}
	}
}

func TestDoOfWhatTheBookRefuses(t *testing.T) {
	w := newWorld(t)
	l, m := filled(t, w, 3, 3)
	told := map[api.Errno]int{}
	for _, r := range refused(t, w, m.book(t)) {
		checkDo(t, l, m, r.deal, r.want)
		told[r.want]++
	}
	for _, e := range []api.Errno{api.ErrRange, api.ErrShape, api.ErrFull, api.ErrState, api.ErrClash, api.ErrWrong} {
		if told[e] == 0 {
			t.Errorf("%v was not told", e)
		}
	}
	checkGoesOn(t, w, l, m)
}

// What the book refuses is no step, and lays no record: whether it was asked, no later call tells.
func TestDoOfWhatTheBookRefusesIsNoStep(t *testing.T) {
	w := newWorld(t)
	for n := range 6 {
		l, m := filled(t, w, 2, 2)
		fail(t, l, m, n)
		for k := range n + 1 {
			for _, r := range refused(t, w, m.book(t)) {
				checkDo(t, l, m, r.deal, r.want)
			}
			want := api.OK
			if k == n {
				want = api.ErrState
			}
			checkDo(t, l, m, w.sealed(t, m.book(t), nil, []api.Spot{base}, 7), want)
		}
		checkStopped(t, w, l, m)
	}
}

func TestSyncMakesAllSafe(t *testing.T) {
	w, p := newWorld(t), pick(4)
	l, m := opened(t, p.coins(w, 4)...)
	checkSync(t, l, m, api.OK)
	for range 8 {
		for range p.below(4) {
			checkDo(t, l, m, p.deal(t, w, m.book(t)), api.OK)
		}
		for range 1 + p.below(2) {
			checkSync(t, l, m, api.OK)
			if l.Safe() != l.Bytes() {
				t.Errorf("behind Sync %d of %d bytes are safe", l.Safe(), l.Bytes())
			}
		}
		kept := slices.Clone(l.Live())
		checkCrash(t, l, m, 0)
		if !slices.Equal(l.Live(), kept) {
			t.Errorf("what was safe is lost: %v, want %v", l.Live(), kept)
		}
	}
}

// play is a row of steps: d is a Do that comes to a record, s a Sync. It says which one of them stops, -1 for none.
func play(t *testing.T, w world, p *pick, l *Log, m *mirror, steps string, stop int) {
	t.Helper()
	for k, step := range steps {
		want := api.OK
		if stop >= 0 && k >= stop {
			want = api.ErrState
		}
		if step == 's' {
			checkSync(t, l, m, want)
			continue
		}
		checkDo(t, l, m, p.deal(t, w, m.book(t)), want)
	}
}

// rows of steps in which each kind is at each place.
func rows() []string {
	return []string{"dddddd", "ssssss", "dsdsds", "sdsdsd", "ddsdds", "sddsdd", "dddsss", "sssddd"}
}

func TestFailOfEachNumber(t *testing.T) {
	w, p := newWorld(t), pick(5)
	for _, steps := range rows() {
		for n := range len(steps) {
			l, m := opened(t, p.coins(w, 4)...)
			fail(t, l, m, n)
			play(t, w, &p, l, m, steps, n)
			checkStopped(t, w, l, m)
			// Those behind it would not come so far: it has not stopped yet.
			l, m = opened(t, p.coins(w, 4)...)
			fail(t, l, m, n)
			play(t, w, &p, l, m, steps[:n], -1)
			checkCrash(t, l, m, 0)
			checkGoesOn(t, w, l, m)
		}
	}
}

func TestFailBehindSomeSteps(t *testing.T) {
	w, p := newWorld(t), pick(6)
	for _, steps := range rows() {
		for ahead := range len(steps) {
			for n := range len(steps) - ahead {
				l, m := opened(t, p.coins(w, 4)...)
				play(t, w, &p, l, m, steps[:ahead], -1)
				fail(t, l, m, n)
				play(t, w, &p, l, m, steps[ahead:], n)
				checkStopped(t, w, l, m)
			}
		}
	}
}

func TestFailBelowZero(t *testing.T) {
	w, p := newWorld(t), pick(7)
	for _, n := range []int{-1, -2, -3, -1000, math.MinInt, math.MinInt + 1} {
		for _, steps := range rows() {
			l, m := opened(t, p.coins(w, 4)...)
			fail(t, l, m, n)
			play(t, w, &p, l, m, steps, -1)
			checkGoesOn(t, w, l, m)
		}
	}
}

func TestFailInVeryManySteps(t *testing.T) {
	w, p := newWorld(t), pick(8)
	for _, n := range []int{12, 255, 256, 1 << 16, 1 << 32, 1<<32 + 1, 1 << 62, math.MaxInt} {
		l, m := opened(t, p.coins(w, 4)...)
		fail(t, l, m, n)
		play(t, w, &p, l, m, "dsddss", -1)
		play(t, w, &p, l, m, "dsdsds", -1)
	}
	l, m := opened(t)
	fail(t, l, m, 300)
	for range 300 {
		checkSync(t, l, m, api.OK)
	}
	checkSync(t, l, m, api.ErrState)
	checkStopped(t, w, l, m)
}

func TestASecondFailTakesThePlaceOfTheFirst(t *testing.T) {
	w, p := newWorld(t), pick(9)
	for _, steps := range rows() {
		for _, first := range []int{-1, 0, 1, 2, 5, math.MaxInt} {
			for between := range 3 {
				if first >= 0 && between > first {
					continue
				}
				for _, next := range []int{-1, 0, 1, 2, 3} {
					l, m := opened(t, p.coins(w, 4)...)
					fail(t, l, m, first)
					play(t, w, &p, l, m, steps[:between], -1)
					fail(t, l, m, next)
					play(t, w, &p, l, m, steps[between:], next)
				}
			}
		}
	}
}

// Of a log that has stopped Fail says nothing: it neither goes on by it, nor is it kept behind the crash.
func TestFailOfALogThatHasStopped(t *testing.T) {
	w := newWorld(t)
	for _, n := range []int{-1, 0, 1, 2, 100, math.MinInt, math.MaxInt} {
		for _, sync := range []bool{false, true} {
			l, m := stopped(t, w, sync)
			fail(t, l, m, n)
			checkStopped(t, w, l, m)
			fail(t, l, m, n)
			checkCrash(t, l, m, all)
			checkGoesOn(t, w, l, m)
		}
	}
}

// stopped is a log with deals that are safe and some that are not, which has stopped at a Sync, or at a Do.
func stopped(t *testing.T, w world, sync bool) (*Log, *mirror) {
	t.Helper()
	l, m := filled(t, w, 2, 3)
	fail(t, l, m, 0)
	if sync {
		checkSync(t, l, m, api.ErrState)
		return l, m
	}
	checkDo(t, l, m, w.sealed(t, m.book(t), l.Live()[:1], []api.Spot{second, far, minus}, 300), api.ErrState)
	return l, m
}

// Of the record half the bytes are there, and the coins are those of ahead.
func TestTheStepThatStopsIsADo(t *testing.T) {
	w, p := newWorld(t), pick(10)
	odd, even := 0, 0
	for range 40 {
		l, m := filled(t, w, p.below(3), p.below(3))
		bytes, safe, live, total := l.Bytes(), l.Safe(), l.Live(), l.Total()
		d := p.deal(t, w, m.book(t))
		if p.below(2) == 0 {
			d = w.sealed(t, m.book(t), slices.Clone(live), p.coins(w, p.below(13)), 300)
		}
		if p.below(3) == 0 {
			// One that is Far has other bytes than any other one.
			d = w.sealed(t, m.book(t), nil, []api.Spot{far}, 300)
		}
		size := m.size(t, d)
		odd, even = odd+size%2, even+1-size%2
		fail(t, l, m, 0)
		checkDo(t, l, m, d, api.ErrState)
		if l.Bytes() != bytes+size/2 || l.Safe() != safe {
			t.Errorf("of %d and %d bytes there are %d, and %d are safe, want %d", bytes, size, l.Bytes(), l.Safe(), safe)
		}
		if !slices.Equal(l.Live(), live) || l.Total() != total {
			t.Errorf("it has %v, %v, want %v, %v", l.Live(), l.Total(), live, total)
		}
		checkStopped(t, w, l, m)
		// The deal is as good as ever when it goes on.
		checkCrash(t, l, m, all)
		if l.Bytes() != bytes {
			t.Errorf("%d bytes are left, want %d", l.Bytes(), bytes)
		}
		checkDo(t, l, m, d, api.OK)
	}
	if odd == 0 || even == 0 {
		t.Errorf("%d sizes are odd, %d even, want both", odd, even)
	}
}

func TestTheStepThatStopsIsASync(t *testing.T) {
	w := newWorld(t)
	for safe := range 3 {
		for more := range 3 {
			l, m := filled(t, w, safe, more)
			bytes, was := l.Bytes(), l.Safe()
			fail(t, l, m, 0)
			checkSync(t, l, m, api.ErrState)
			if l.Bytes() != bytes || l.Safe() != was {
				t.Errorf("it has %d bytes, %d safe, want %d, %d", l.Bytes(), l.Safe(), bytes, was)
			}
			checkStopped(t, w, l, m)
			checkCrash(t, l, m, -1)
			if l.Bytes() != was {
				t.Errorf("%d bytes are left, want %d", l.Bytes(), was)
			}
			checkGoesOn(t, w, l, m)
		}
	}
}

// keeps are numbers to keep of so many bytes: all there are, and those beside and far beyond.
func keeps(bytes int) []int {
	l := []int{-1, -2, -1000, math.MinInt, math.MinInt + 1, bytes + 1, bytes + 2, bytes + 1000, 1 << 32, math.MaxInt - 1, math.MaxInt}
	for n := range bytes + 1 {
		l = append(l, n)
	}
	return l
}

func TestCrashOfEachKeep(t *testing.T) {
	w := newWorld(t)
	for safe := range 3 {
		for more := range 4 {
			l, _ := filled(t, w, safe, more)
			for _, keep := range keeps(l.Bytes() - l.Safe()) {
				l, m := filled(t, w, safe, more)
				checkCrash(t, l, m, keep)
				checkGoesOn(t, w, l, m)
			}
		}
	}
}

func TestCrashOfEachKeepWhenItHasStopped(t *testing.T) {
	w := newWorld(t)
	for _, sync := range []bool{false, true} {
		l, _ := stopped(t, w, sync)
		for _, keep := range keeps(l.Bytes() - l.Safe()) {
			l, m := stopped(t, w, sync)
			checkStopped(t, w, l, m)
			checkCrash(t, l, m, keep)
			checkGoesOn(t, w, l, m)
		}
	}
}

// Told without the mirror: so many records are left as are whole within the bytes kept.
func TestCrashKeepsWholeRecords(t *testing.T) {
	w, p := newWorld(t), pick(11)
	coins := p.coins(w, 4)
	b, err := book.New(coins)
	if err != nil {
		t.Fatal(err)
	}
	l, _ := opened(t, coins...)
	ends, lives, totals := []int{0}, [][]int{l.Live()}, []api.Spot{l.Total()}
	var row []api.Deal
	for range 6 {
		d := p.deal(t, w, b)
		if b.Do(d) != nil || l.Do(d) != nil {
			t.Fatalf("Do(%v) is not done", d)
		}
		row = append(row, d)
		ends, lives, totals = append(ends, l.Bytes()), append(lives, l.Live()), append(totals, l.Total())
	}
	for keep := range l.Bytes() + 1 {
		l, _ := opened(t, coins...)
		for _, d := range row {
			if err := l.Do(d); err != nil {
				t.Fatalf("Do(%v): %v", d, err)
			}
		}
		l.Crash(keep)
		left := 0
		for left+1 < len(ends) && ends[left+1] <= keep {
			left++
		}
		if l.Bytes() != ends[left] || l.Safe() != ends[left] || !slices.Equal(l.Live(), lives[left]) || l.Total() != totals[left] {
			t.Errorf("of %d bytes there are %d, %d, %v, want those of %d records", keep, l.Bytes(), l.Safe(), l.Live(), left)
		}
	}
}

func TestCrashBehindACrash(t *testing.T) {
	w, p := newWorld(t), pick(12)
	for _, first := range []int{-1, 0, 1, 20, 40, all} {
		for _, next := range []int{-1, 0, 1, 20, 40, all} {
			l, m := filled(t, w, 2, 4)
			checkCrash(t, l, m, first)
			bytes, live := l.Bytes(), l.Live()
			checkCrash(t, l, m, next)
			if l.Bytes() != bytes || !slices.Equal(l.Live(), live) {
				t.Errorf("a second crash leaves %d, %v, want %d, %v", l.Bytes(), l.Live(), bytes, live)
			}
			// What is done between them is lost like anything else.
			play(t, w, &p, l, m, "dd", -1)
			checkCrash(t, l, m, next)
			play(t, w, &p, l, m, "dsd", -1)
			checkCrash(t, l, m, first)
			checkGoesOn(t, w, l, m)
		}
	}
}

func TestCrashOfALogWithNothing(t *testing.T) {
	w := newWorld(t)
	for _, keep := range []int{math.MinInt, -1, 0, 1, all, math.MaxInt} {
		l, m := opened(t)
		checkCrash(t, l, m, keep)
		checkCrash(t, l, m, keep)
		checkGoesOn(t, w, l, m)
	}
}

func TestCrashForgetsWhatFailSaid(t *testing.T) {
	w, p := newWorld(t), pick(13)
	for n := range 4 {
		for ahead := range n + 1 {
			l, m := filled(t, w, 1, 1)
			fail(t, l, m, n)
			play(t, w, &p, l, m, "sdsd"[:ahead], -1)
			checkCrash(t, l, m, 0)
			play(t, w, &p, l, m, "dsdsds", -1)
			// And a new one is counted from there on.
			fail(t, l, m, 1)
			play(t, w, &p, l, m, "dds", 1)
			checkStopped(t, w, l, m)
		}
	}
}

// A deal that a crash took may be done again, and another one in its place.
func TestWhatIsLostMayBeDoneAgain(t *testing.T) {
	w := newWorld(t)
	l, m := opened(t, base, second)
	checkSync(t, l, m, api.OK)
	d := w.sealed(t, m.book(t), []int{0}, []api.Spot{minus, far}, 29)
	other := w.sealed(t, m.book(t), []int{0, 1}, []api.Spot{base, base, base}, 30)
	for range 3 {
		checkDo(t, l, m, d, api.OK)
		checkDo(t, l, m, d, api.ErrState)
		checkDo(t, l, m, other, api.ErrState)
		checkCrash(t, l, m, 0)
		checkDo(t, l, m, other, api.OK)
		checkDo(t, l, m, d, api.ErrState)
		checkCrash(t, l, m, l.Bytes()-1)
	}
	checkDo(t, l, m, d, api.OK)
	checkCrash(t, l, m, l.Bytes())
	checkDo(t, l, m, d, api.ErrState)
}

// After any row of steps the log is that of the mirror, and what was there at the last Sync that was done is never lost.
func TestWhatIsSafeIsKept(t *testing.T) {
	w, p := newWorld(t), pick(14)
	told := map[string]int{}
	for range 60 {
		l, m := opened(t, p.coins(w, p.below(13))...)
		safe, held := 0, []record(nil)
		for range 60 {
			told[p.step(t, w, l, m)]++
			if l.Safe() < safe || l.Bytes() < l.Safe() {
				t.Fatalf("%d bytes were safe, and there are %d, %d of them safe", safe, l.Bytes(), l.Safe())
			}
			checkGone(t, l, held)
			if l.Safe() > safe {
				safe, held = l.Safe(), slices.Clone(m.done)
			}
		}
	}
	for _, k := range []string{"sync OK", "sync ErrState", "fail", "crash", "lost", "do OK", "do ErrState", "do ErrWrong"} {
		if told[k] < 20 {
			t.Errorf("%s: %d times, want more", k, told[k])
		}
	}
}

// step of any kind, and its name.
func (p *pick) step(t *testing.T, w world, l *Log, m *mirror) string {
	t.Helper()
	switch p.below(8) {
	case 0:
		want := m.ahead()
		checkSync(t, l, m, want)
		return "sync " + want.Error()
	case 1:
		fail(t, l, m, p.below(9)-2)
		return "fail"
	case 2:
		was := len(m.done)
		checkCrash(t, l, m, p.below(l.Bytes()-l.Safe()+7)-3)
		if len(m.done) < was {
			return "lost"
		}
		return "crash"
	case 3:
		faults := refused(t, w, m.book(t))
		f := faults[p.below(len(faults))]
		if m.stopped {
			f.want = api.ErrState
		}
		checkDo(t, l, m, f.deal, f.want)
		return "do " + f.want.Error()
	}
	want := m.ahead()
	checkDo(t, l, m, p.deal(t, w, m.book(t)), want)
	return "do " + want.Error()
}

// ahead is what the next step tells.
func (m *mirror) ahead() api.Errno {
	if m.stopped || m.since == m.fail {
		return api.ErrState
	}
	return api.OK
}

// checkGone tells that no coin which went by these deals is live again.
func checkGone(t *testing.T, l *Log, held []record) {
	t.Helper()
	for _, r := range held {
		for _, place := range r.deal.Gone {
			if slices.Contains(l.Live(), place) {
				t.Errorf("%d is live again", place)
			}
		}
	}
}

// A record may have as many that go as there are coins, and each S, and a spot of the seal that does not count.
func TestAGreatBookIsKept(t *testing.T) {
	w, p := newWorld(t), pick(15)
	l, m := opened(t, p.coins(w, 12)...)
	b := m.book(t)
	do := func(d api.Deal, want api.Errno) {
		t.Helper()
		got := l.Do(d)
		if plain.Told(got) != want || plain.Told(b.Do(d)) != want {
			t.Fatalf("Do of %d that go and %d that come is %v, want %v", len(d.Gone), len(d.New), got, want)
		}
	}
	same := func() {
		t.Helper()
		if !slices.Equal(l.Live(), b.Live()) || l.Total() != b.Total() {
			t.Errorf("it has %v, %v, want %v, %v", l.Live(), l.Total(), b.Live(), b.Total())
		}
	}
	for len(b.Coins()) < 1000 {
		do(w.sealed(t, b, nil, p.coins(w, min(12, 1000-len(b.Coins()))), 1+p.below(1012)), api.OK)
	}
	do(w.sealed(t, b, nil, []api.Spot{base}, 5), api.ErrFull)
	do(w.sealed(t, b, []int{0}, []api.Spot{base}, 5), api.ErrFull)
	same()
	bytes := l.Bytes()
	l.Crash(bytes)
	same()
	do(w.sealed(t, b, []int{0}, []api.Spot{base}, 5), api.ErrFull)
	every := w.sealed(t, b, b.Live(), nil, 5)
	slices.Reverse(every.Gone)
	if l.Bytes() != bytes || l.Safe() != bytes || len(every.Gone) != 1000 {
		t.Errorf("%d of %d bytes are left, and %d coins", l.Bytes(), bytes, len(every.Gone))
	}
	l.Fail(0)
	if err := l.Do(every); plain.Told(err) != api.ErrState {
		t.Errorf("Do is %v, want ErrState", err)
	}
	same()
	l.Crash(all)
	same()
	do(every, api.OK)
	l.Crash(l.Bytes() - bytes - 1)
	if len(l.Live()) != 1000 || l.Bytes() != bytes {
		t.Errorf("%d are live, by %d bytes, want 1000, by %d", len(l.Live()), l.Bytes(), bytes)
	}
	if err := l.Do(every); err != nil {
		t.Errorf("Do: %v", err)
	}
	l.Crash(all)
	same()
	if len(l.Live()) != 0 || l.Total() != far || l.Safe() <= bytes {
		t.Errorf("it has %v, %v, by %d bytes", l.Live(), l.Total(), l.Safe())
	}
}

// A deal in which nothing goes and nothing comes may be done as often as one likes: each has its record.
func TestALongLogIsKept(t *testing.T) {
	w := newWorld(t)
	l, m := opened(t, base)
	nothing := w.sealed(t, m.book(t), nil, nil, 5)
	if err := l.Do(nothing); err != nil {
		t.Fatal(err)
	}
	size := l.Bytes()
	for range 9999 {
		if err := l.Do(nothing); err != nil {
			t.Fatal(err)
		}
	}
	if err := l.Do(w.sealed(t, m.book(t), []int{0}, []api.Spot{second}, 5)); err != nil {
		t.Fatal(err)
	}
	l.Crash(all)
	if l.Bytes() <= 10000*size || !slices.Equal(l.Live(), []int{1}) || l.Total() != second {
		t.Errorf("it has %d bytes, %v, %v", l.Bytes(), l.Live(), l.Total())
	}
}

// spare has a list with more memory behind it, and that memory whole.
func spare[T any](l []T, behind ...T) (list, all []T) {
	all = slices.Concat(l, behind)
	return all[:len(l)], all
}

func TestNewKeepsNoList(t *testing.T) {
	w := newWorld(t)
	list, memory := spare([]api.Spot{base, second}, wide, off)
	was := slices.Clone(memory)
	_, m := opened(t, base, second)
	l, err := New(list)
	if err != nil || !slices.Equal(memory, was) {
		t.Fatalf("New: %v, and the list is %v", err, memory)
	}
	clear(memory)
	checkLog(t, l, m)
	// Behind a crash the book comes of New's coins once more.
	checkDo(t, l, m, w.sealed(t, m.book(t), []int{1}, []api.Spot{minus}, 5), api.OK)
	checkCrash(t, l, m, 0)
	checkDo(t, l, m, w.sealed(t, m.book(t), []int{0}, []api.Spot{minus}, 5), api.OK)
	checkCrash(t, l, m, all)
	if !slices.Equal(memory, make([]api.Spot, 4)) {
		t.Errorf("the list is written into: %v", memory)
	}
}

func TestDoKeepsNoList(t *testing.T) {
	w := newWorld(t)
	for _, n := range []int{-1, 0} {
		l, m := opened(t, base, second, minus)
		gone, goneMemory := spare([]int{2, 0}, -1, 0)
		come, comeMemory := spare([]api.Spot{second, base}, wide, off)
		wasGone, wasCome := slices.Clone(goneMemory), slices.Clone(comeMemory)
		d := w.sealed(t, m.book(t), gone, come, 5)
		fail(t, l, m, n)
		checkDo(t, l, m, d, m.ahead())
		if !slices.Equal(goneMemory, wasGone) || !slices.Equal(comeMemory, wasCome) {
			t.Errorf("the lists are written into: %v, %v", goneMemory, comeMemory)
		}
		clear(goneMemory)
		clear(comeMemory)
		checkLog(t, l, m)
		checkCrash(t, l, m, all)
		checkGoesOn(t, w, l, m)
		if !slices.Equal(goneMemory, make([]int, 4)) || !slices.Equal(comeMemory, make([]api.Spot, 4)) {
			t.Errorf("the lists are written into later: %v, %v", goneMemory, comeMemory)
		}
	}
}

func TestWhatLiveTellsIsTheCallers(t *testing.T) {
	w := newWorld(t)
	l, m := filled(t, w, 2, 2)
	kept := l.Live()
	was := slices.Clone(kept)
	for range 2 {
		list := l.Live()
		list = list[:cap(list)]
		for k := range list {
			list[k] = -7
		}
		_ = append(list[:0], 9, 9, 9)
		checkLog(t, l, m)
	}
	checkDo(t, l, m, w.sealed(t, m.book(t), l.Live(), []api.Spot{base, minus}, 5), api.OK)
	checkCrash(t, l, m, 0)
	if !slices.Equal(kept, was) {
		t.Errorf("what was told has changed: %v, want %v", kept, was)
	}
}

func TestLogsAreApart(t *testing.T) {
	w := newWorld(t)
	coins := []api.Spot{base, second, minus}
	one, first := opened(t, coins...)
	two, other := opened(t, coins...)
	checkDo(t, one, first, w.sealed(t, first.book(t), []int{0, 2}, []api.Spot{far}, 5), api.OK)
	fail(t, one, first, 0)
	checkLog(t, two, other)
	checkDo(t, two, other, w.sealed(t, other.book(t), []int{1}, []api.Spot{second, second}, 6), api.OK)
	checkSync(t, two, other, api.OK)
	checkSync(t, one, first, api.ErrState)
	checkDo(t, two, other, w.sealed(t, other.book(t), []int{0}, nil, 6), api.OK)
	checkCrash(t, one, first, 0)
	checkLog(t, two, other)
	checkGoesOn(t, w, one, first)
	checkGoesOn(t, w, two, other)
}

// The same calls tell the same.
func TestTheSameCallsTellTheSame(t *testing.T) {
	w := newWorld(t)
	one, _ := filled(t, w, 3, 3)
	two, _ := filled(t, w, 3, 3)
	for keep := 200; keep >= 0; keep -= 50 {
		if one.Bytes() != two.Bytes() || one.Safe() != two.Safe() || !slices.Equal(one.Live(), two.Live()) || one.Total() != two.Total() {
			t.Errorf("they differ: %v, %v", one, two)
		}
		one.Crash(keep)
		two.Crash(keep)
	}
}
