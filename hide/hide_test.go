package hide

import (
	"math"
	"testing"

	"pairstone/api"
	"pairstone/curve"
	"pairstone/plain"
)

var (
	far = api.Spot{Far: true}
	// flat has Y 0: twice it is Far, so that it does not count.
	flat   = api.Spot{}
	base   = api.Spot{X: 1189, Y: 3667}
	second = api.Spot{X: 607, Y: 1325}
	// four, twice and whole are on the curve but do not count: their orders are 4, twice Q and Whole.
	four  = api.Spot{X: 4050, Y: 90}
	twice = api.Spot{X: 3180, Y: 1220}
	whole = api.Spot{X: 107, Y: 3793}
)

// outside are numbers that are not from 0 to Q - 1, some of which are one modulo Q, or in their lower bits.
func outside() []int {
	return []int{-1, -2, -1012, -1013, -1014, 1013, 1014, 2025, 2026, 4051, 4052, 4053, 1 << 16, 1 << 32, 1<<32 + 1, 1 << 62, math.MaxInt, math.MinInt, math.MinInt + 1}
}

// edges are numbers that may be: the least, the greatest, and some between.
func edges() []int { return []int{0, 1, 2, 29, 506, 507, 1011, 1012} }

// beside has spots of the curve that do not count, one of each order: 2, 4, twice Q and Whole.
func beside() []api.Spot { return []api.Spot{flat, four, twice, whole} }

// wrong is a spot, and what is told of it.
type wrong struct {
	s    api.Spot
	want api.Errno
}

// wrongs has spots that are none: out of range at each place, Far and somewhere, beside the curve.
func wrongs() (l []wrong) {
	for _, n := range []int{-1, -4051, 4051, 4052, 1 << 16, math.MaxInt, math.MinInt} {
		l = append(l,
			wrong{api.Spot{X: n}, api.ErrRange},
			wrong{api.Spot{Y: n}, api.ErrRange},
			wrong{api.Spot{X: n, Y: 3667}, api.ErrRange},
			wrong{api.Spot{X: 1189, Y: n}, api.ErrRange},
			wrong{api.Spot{X: n, Far: true}, api.ErrRange},
			wrong{api.Spot{Y: n, Far: true}, api.ErrRange},
		)
	}
	return append(l,
		wrong{api.Spot{X: 1189 + 4051, Y: 3667}, api.ErrRange},
		wrong{api.Spot{X: 1189, Y: 3667 - 4051}, api.ErrRange},
		wrong{api.Spot{X: 1, Far: true}, api.ErrRange},
		wrong{api.Spot{X: 1189, Y: 3667, Far: true}, api.ErrRange},
		wrong{api.Spot{X: 1189, Y: 3666}, api.ErrShape},
		wrong{api.Spot{X: 1189}, api.ErrShape},
		wrong{api.Spot{Y: 1}, api.ErrShape},
		wrong{api.Spot{X: 4050, Y: 4050}, api.ErrShape},
	)
}

// world has all spots in a row, each as so many times the first one of it: sums of spots are those of their places, modulo Whole.
type world struct {
	row []api.Spot
	at  map[api.Spot]int
}

func newWorld(t *testing.T) world {
	t.Helper()
	w := world{at: map[api.Spot]int{}}
	for s := far; len(w.row) < 4052; {
		w.at[s] = len(w.row)
		w.row = append(w.row, s)
		s = sumOf(t, s, whole)
	}
	if len(w.at) != 4052 {
		t.Fatalf("%v comes by %d spots, want 4052", whole, len(w.at))
	}
	return w
}

// hidden is Hide of numbers that may be, told by places alone.
func (w world) hidden(v, r int) api.Spot {
	return w.row[(v*w.at[base]+r*w.at[second])%4052]
}

// by is the r by which a spot that counts hides v: all of them are tried.
func (w world) by(t *testing.T, c api.Spot, v int) int {
	t.Helper()
	found := []int{}
	for r := range 1013 {
		if w.hidden(v, r) == c {
			found = append(found, r)
		}
	}
	if len(found) != 1 {
		t.Fatalf("%v hides %d by %v, want just one", c, v, found)
	}
	return found[0]
}

// pick is a row of numbers that look as if by chance, the same ones each time.
type pick int

func (p *pick) below(n int) int {
	*p = (*p*1103515245 + 12345) & (1<<31 - 1)
	return int(*p>>8) % n
}

func sumOf(t *testing.T, a, b api.Spot) api.Spot {
	t.Helper()
	sum, err := curve.Add(a, b)
	if err != nil {
		t.Fatalf("Add(%v, %v): %v", a, b, err)
	}
	return sum
}

func checkHide(t *testing.T, v, r int, want api.Spot) {
	t.Helper()
	if got, err := Hide(v, r); got != want || err != nil {
		t.Errorf("Hide(%d, %d) is %v, %v, want %v", v, r, got, err, want)
	}
}

func failHide(t *testing.T, v, r int) {
	t.Helper()
	if got, err := Hide(v, r); got != (api.Spot{}) || plain.Told(err) != api.ErrRange {
		t.Errorf("Hide(%d, %d) is %v, %v, want ErrRange", v, r, got, err)
	}
}

func checkOpen(t *testing.T, c api.Spot, v, r int, want bool) {
	t.Helper()
	if got, err := Open(c, v, r); got != want || err != nil {
		t.Errorf("Open(%v, %d, %d) is %v, %v, want %v", c, v, r, got, err, want)
	}
}

func failOpen(t *testing.T, c api.Spot, v, r int, want api.Errno) {
	t.Helper()
	if got, err := Open(c, v, r); got || plain.Told(err) != want {
		t.Errorf("Open(%v, %d, %d) is %v, %v, want %v", c, v, r, got, err, want)
	}
}

func checkFind(t *testing.T, c api.Spot, v, want int) {
	t.Helper()
	if got, err := Find(c, v); got != want || err != nil {
		t.Errorf("Find(%v, %d) is %d, %v, want %d", c, v, got, err, want)
	}
}

func failFind(t *testing.T, c api.Spot, v int, want api.Errno) {
	t.Helper()
	if got, err := Find(c, v); got != 0 || plain.Told(err) != want {
		t.Errorf("Find(%v, %d) is %d, %v, want %v", c, v, got, err, want)
	}
}

func TestSecondIsTheSpotOfItsText(t *testing.T) {
	w := newWorld(t)
	// The rule of chapter 6, told without package hash: the first byte behind the text that leads to a spot.
	long := 5
	for _, b := range []byte("second") {
		long = (long*263 + int(b) + 1) % 1000003
	}
	want := far
	for k := 0; k < 256 && want.Far; k++ {
		x := (long*263 + k + 1) % 1000003 % 4051
		for y := range 4051 {
			if at, ok := w.at[api.Spot{X: x, Y: y}]; ok {
				want = w.row[4*at%4052]
				break
			}
		}
	}
	if want != second {
		t.Errorf("the rule leads to %v, want %v", want, second)
	}
	for range 2 {
		if got := Second(); got != second {
			t.Errorf("Second is %v, want %v", got, second)
		}
	}
}

func TestSecondCountsAndIsNotBase(t *testing.T) {
	w := newWorld(t)
	s := Second()
	if s.Far || s == base || w.at[s]*1013%4052 != 0 {
		t.Errorf("Second is %v, at %d", s, w.at[s])
	}
}

func TestHideByHand(t *testing.T) {
	cases := []struct {
		v, r int
		want api.Spot
	}{
		{0, 0, far},
		{1, 0, base},
		{1012, 0, api.Spot{X: 1189, Y: 384}},
		{0, 1, second},
		{0, 1012, api.Spot{X: 607, Y: 2726}},
		// Second is 300 times Base, so that these are Far as well, or Base.
		{713, 1, far},
		{300, 1012, far},
		{714, 1, base},
		{300, 0, second},
		{150, 0, api.Spot{X: 136, Y: 3454}},
		{226, 606, api.Spot{X: 2511, Y: 316}},
		{777, 721, api.Spot{X: 2956, Y: 3482}},
	}
	for _, c := range cases {
		// What comes of the same is the same each time.
		for range 2 {
			checkHide(t, c.v, c.r, c.want)
		}
		checkOpen(t, c.want, c.v, c.r, true)
		checkFind(t, c.want, c.v, c.r)
	}
}

func TestHideOfEachNumber(t *testing.T) {
	w := newWorld(t)
	for n := range 1013 {
		for _, e := range edges() {
			checkHide(t, n, e, w.hidden(n, e))
			checkHide(t, e, n, w.hidden(e, n))
		}
		checkHide(t, n, n, w.hidden(n, n))
		checkHide(t, n, 1012-n, w.hidden(n, 1012-n))
	}
}

func TestHideOfManyPairs(t *testing.T) {
	w, p := newWorld(t), pick(1)
	for range 5000 {
		v, r := p.below(1013), p.below(1013)
		checkHide(t, v, r, w.hidden(v, r))
	}
}

func TestHideTellsOfANumberThatMayNotBe(t *testing.T) {
	for _, n := range outside() {
		for _, e := range edges() {
			failHide(t, n, e)
			failHide(t, e, n)
		}
		for _, m := range outside() {
			failHide(t, n, m)
		}
	}
}

func TestOpenOfWhatWasHidden(t *testing.T) {
	p := pick(2)
	for range 1500 {
		v, r := p.below(1013), p.below(1013)
		c, err := Hide(v, r)
		if err != nil {
			t.Fatalf("Hide(%d, %d): %v", v, r, err)
		}
		checkOpen(t, c, v, r, true)
		checkOpen(t, c, (v+1+p.below(1012))%1013, r, false)
		checkOpen(t, c, v, (r+1+p.below(1012))%1013, false)
	}
}

// Of one that is hidden no other value goes with its number, and no other number with its value.
func TestOpenWithEachOtherNumber(t *testing.T) {
	w := newWorld(t)
	for _, c := range [][2]int{{0, 0}, {29, 300}, {1012, 1012}} {
		s := w.hidden(c[0], c[1])
		for n := range 1013 {
			checkOpen(t, s, n, c[1], n == c[0])
			checkOpen(t, s, c[0], n, n == c[1])
		}
	}
}

// With both of them others it may be right all the same: the places tell.
func TestOpenWithBothOthers(t *testing.T) {
	w, p := newWorld(t), pick(3)
	for range 1500 {
		s := w.hidden(p.below(1013), p.below(1013))
		v, r := p.below(1013), p.below(1013)
		checkOpen(t, s, v, r, s == w.hidden(v, r))
		checkOpen(t, s, v, w.by(t, s, v), true)
	}
}

func TestOpenOfEachSpot(t *testing.T) {
	w, p := newWorld(t), pick(4)
	for _, s := range w.row {
		v, r := p.below(1013), p.below(1013)
		checkOpen(t, s, v, r, s == w.hidden(v, r))
	}
}

func TestOpenOfFar(t *testing.T) {
	w := newWorld(t)
	for _, v := range edges() {
		for _, r := range edges() {
			checkOpen(t, far, v, r, v == 0 && r == 0)
		}
		checkOpen(t, far, v, w.by(t, far, v), true)
	}
}

// One that does not count is no fault here: it is just not what was hidden.
func TestOpenOfWhatDoesNotCount(t *testing.T) {
	w := newWorld(t)
	for _, v := range edges() {
		for _, r := range edges() {
			for _, s := range beside() {
				checkOpen(t, s, v, r, false)
			}
			// Also where 4 times it is 4 times the right one.
			for _, step := range []int{1013, 2026, 3039} {
				checkOpen(t, w.row[(w.at[w.hidden(v, r)]+step)%4052], v, r, false)
			}
		}
	}
}

func TestOpenTellsOfTheSpotFirst(t *testing.T) {
	numbers := append(outside(), edges()...)
	for _, a := range wrongs() {
		for _, v := range numbers {
			for _, r := range numbers {
				failOpen(t, a.s, v, r, a.want)
			}
		}
	}
}

func TestOpenTellsOfANumberThatMayNotBe(t *testing.T) {
	for _, s := range append(beside(), far, base, second) {
		for _, n := range outside() {
			for _, e := range edges() {
				failOpen(t, s, n, e, api.ErrRange)
				failOpen(t, s, e, n, api.ErrRange)
			}
			for _, m := range outside() {
				failOpen(t, s, n, m, api.ErrRange)
			}
		}
	}
}

func TestFindOfWhatWasHiddenByEachNumber(t *testing.T) {
	p := pick(5)
	for r := range 1013 {
		for _, v := range []int{0, 1012, p.below(1013)} {
			c, err := Hide(v, r)
			if err != nil {
				t.Fatalf("Hide(%d, %d): %v", v, r, err)
			}
			checkFind(t, c, v, r)
		}
	}
}

func TestFindOfFar(t *testing.T) {
	w := newWorld(t)
	checkFind(t, far, 0, 0)
	// Second is 300 times Base: once more of it, and it is 0 modulo Q.
	checkFind(t, far, 713, 1)
	checkFind(t, far, 300, 1012)
	for _, v := range edges() {
		checkFind(t, far, v, w.by(t, far, v))
	}
}

// One spot may hide anything: each value by just one number, which Find tells, and it opens it.
func TestItMayBeAnything(t *testing.T) {
	w := newWorld(t)
	for _, c := range []api.Spot{far, w.hidden(29, 300)} {
		numbers := map[int]int{}
		for v := range 1013 {
			r := w.by(t, c, v)
			checkFind(t, c, v, r)
			checkOpen(t, c, v, r, true)
			numbers[r]++
		}
		if len(numbers) != 1013 {
			t.Errorf("%v hides all values by %d numbers, want each of 1013 once", c, len(numbers))
		}
	}
}

func TestNoOtherNumberHidesAnotherValue(t *testing.T) {
	p := pick(6)
	for range 3 {
		c, err := Hide(p.below(1013), p.below(1013))
		if err != nil {
			t.Fatalf("Hide: %v", err)
		}
		v := p.below(1013)
		found, err := Find(c, v)
		if err != nil {
			t.Fatalf("Find(%v, %d): %v", c, v, err)
		}
		for r := range 1013 {
			checkOpen(t, c, v, r, r == found)
		}
	}
}

func TestFindOfEachSpot(t *testing.T) {
	w, p := newWorld(t), pick(7)
	for at, s := range w.row {
		v := p.below(1013)
		if at*1013%4052 != 0 {
			failFind(t, s, v, api.ErrShape)
			continue
		}
		checkFind(t, s, v, w.by(t, s, v))
	}
}

func TestFindTellsOfTheSpotFirst(t *testing.T) {
	for _, a := range wrongs() {
		for _, v := range append(outside(), edges()...) {
			failFind(t, a.s, v, a.want)
		}
	}
}

func TestFindTellsOfWhatDoesNotCountAheadOfTheValue(t *testing.T) {
	for _, s := range beside() {
		for _, v := range append(outside(), edges()...) {
			failFind(t, s, v, api.ErrShape)
		}
	}
}

func TestFindTellsOfAValueThatMayNotBe(t *testing.T) {
	for _, s := range []api.Spot{far, base, second} {
		for _, v := range outside() {
			failFind(t, s, v, api.ErrRange)
		}
	}
}

// The sum of two that are hidden hides the sums, modulo Q.
func TestItAddsUp(t *testing.T) {
	p := pick(8)
	checkSum := func(v, r, u, q int) {
		t.Helper()
		a, err := Hide(v, r)
		if err != nil {
			t.Fatalf("Hide(%d, %d): %v", v, r, err)
		}
		b, err := Hide(u, q)
		if err != nil {
			t.Fatalf("Hide(%d, %d): %v", u, q, err)
		}
		sum := sumOf(t, a, b)
		checkHide(t, (v+u)%1013, (r+q)%1013, sum)
		checkOpen(t, sum, (v+u)%1013, (r+q)%1013, true)
		checkOpen(t, sum, (v+u+1)%1013, (r+q)%1013, false)
		checkFind(t, sum, (v+u)%1013, (r+q)%1013)
	}
	for range 500 {
		checkSum(p.below(1013), p.below(1013), p.below(1013), p.below(1013))
	}
	for _, v := range edges() {
		for _, r := range edges() {
			// Twice the same one, one and what makes it Far, and one with nothing.
			checkSum(v, r, v, r)
			checkSum(v, r, (1013-v)%1013, (1013-r)%1013)
			checkSum(v, r, 0, 0)
			checkSum(v, r, 1012, 1012)
		}
	}
}
