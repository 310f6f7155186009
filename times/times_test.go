package times

import (
	"math"
	"math/big"
	"testing"

	"pairstone/api"
	"pairstone/curve"
	"pairstone/plain"
)

var far = api.Spot{Far: true}

// flat has Y 0: it is its own Neg, so that twice it is Far.
var flat = api.Spot{}

// add is curve.Add of spots that are right.
func add(t *testing.T, a, b api.Spot) api.Spot {
	t.Helper()
	sum, err := curve.Add(a, b)
	if err != nil {
		t.Fatalf("Add(%v, %v): %v", a, b, err)
	}
	return sum
}

// walk has 0, 1, 2 .. times a spot, added one by one, up to where it is Far again: as many as its order.
func walk(t *testing.T, s api.Spot) []api.Spot {
	l := []api.Spot{far}
	for at := s; !at.Far; at = add(t, at, s) {
		if len(l) > api.Whole {
			t.Fatalf("%v never comes round", s)
		}
		l = append(l, at)
	}
	return l
}

// wholeWalk is that of the first spot, by X, that comes by all of them: each spot of the curve is in it, once.
func wholeWalk(t *testing.T) []api.Spot {
	for x := range api.P {
		s, err := curve.Lift(x)
		if err != nil {
			continue
		}
		if l := walk(t, s); len(l) == api.Whole {
			return l
		}
	}
	t.Fatal("no spot comes by all of them")
	return nil
}

// place of n times in a walk of so many: n modulo that, told by great numbers, from 0 on also where n is below 0.
func place(n, many int) int {
	return int(new(big.Int).Mod(big.NewInt(int64(n)), big.NewInt(int64(many))).Int64())
}

// counts are numbers by which to take times of a spot of that order: the edges, and some between.
func counts(order int) []int {
	l := []int{0, 1, 2, 3, 4, 5, 7, 8, 100, 1000, 12345, 1 << 31, 1<<62 - 1, 1 << 62, math.MaxInt - 1, math.MaxInt}
	for _, k := range []int{order, 2 * order, 3 * order, api.Q, api.P, api.Whole, 2 * api.Whole} {
		l = append(l, k-1, k, k+1)
	}
	for _, n := range l[:len(l):len(l)] {
		l = append(l, -n)
	}
	return append(l, math.MinInt, math.MinInt+1, math.MinInt/2, math.MinInt/2-1)
}

func checkTimes(t *testing.T, s api.Spot, n int, want api.Spot) {
	t.Helper()
	if got, err := Times(s, n); got != want || err != nil {
		t.Errorf("Times(%v, %d) is %v, %v, want %v", s, n, got, err, want)
	}
}

func TestTimesByHand(t *testing.T) {
	cases := []struct {
		s    api.Spot
		n    int
		want api.Spot
	}{
		{api.Spot{X: 1865, Y: 3880}, -7228, api.Spot{X: 236, Y: 421}},
		{api.Spot{X: 3213, Y: 2847}, 2132, api.Spot{X: 658, Y: 377}},
		{api.Spot{X: 344, Y: 1423}, 2025, api.Spot{X: 344, Y: 2628}},
		{api.Spot{X: 3180, Y: 1220}, 4418, api.Spot{X: 3661, Y: 3051}},
		{api.Spot{X: 107, Y: 3793}, 3368, api.Spot{X: 2551, Y: 2270}},
		{api.Spot{X: 2678, Y: 778}, 0, far},
		{api.Spot{X: 2678, Y: 778}, 1, api.Spot{X: 2678, Y: 778}},
		{api.Spot{X: 2678, Y: 778}, -1, api.Spot{X: 2678, Y: 3273}},
		{api.Spot{X: 2678, Y: 778}, 2, api.Spot{X: 3290, Y: 3135}},
		{api.Spot{X: 2678, Y: 778}, -2, api.Spot{X: 3290, Y: 916}},
		// The least int is even, the greatest one is odd.
		{flat, 0, far}, {flat, 1, flat}, {flat, -1, flat}, {flat, 2, far}, {flat, -2, far}, {flat, 3, flat},
		{flat, math.MinInt, far}, {flat, math.MaxInt, flat},
	}
	for _, c := range cases {
		checkTimes(t, c.s, c.n, c.want)
	}
}

func TestTimesOfFarIsFar(t *testing.T) {
	for _, n := range counts(1) {
		checkTimes(t, far, n, far)
	}
}

// samples has spots of every order there is: 1, 2, 4, Q, twice Q and Whole.
func samples(t *testing.T) (l []api.Spot) {
	all := wholeWalk(t)
	for _, k := range []int{0, 1, 2, 3, 4, 5, 8, 1012, 1013, 1014, 2025, 2026, 2027, 3039, 4050, 4051} {
		l = append(l, all[k])
	}
	return l
}

func TestTimesIsAddedOneByOne(t *testing.T) {
	for _, s := range samples(t) {
		l := walk(t, s)
		for n := range 2*len(l) + 2 {
			checkTimes(t, s, n, l[n%len(l)])
		}
	}
}

func TestTimesBelowZeroIsTheNeg(t *testing.T) {
	for _, s := range samples(t) {
		l := walk(t, s)
		for n := range 2*len(l) + 2 {
			want, err := curve.Neg(l[n%len(l)])
			if err != nil {
				t.Fatal(err)
			}
			checkTimes(t, s, -n, want)
		}
	}
}

func TestTimesAtTheEdges(t *testing.T) {
	for _, s := range samples(t) {
		l := walk(t, s)
		for _, n := range counts(len(l)) {
			checkTimes(t, s, n, l[place(n, len(l))])
		}
	}
}

func TestTimesOfEachSpot(t *testing.T) {
	l := wholeWalk(t)
	for k, s := range l {
		for _, n := range []int{-4052, -1013, -1, 0, 1, 2, 3, 4, 1012, 1013, 1014, 2026, 4051, 4052, 4053} {
			checkTimes(t, s, n, l[place(k*n, len(l))])
		}
	}
}

// orderIn is the order of the k-th of a walk by all of them: how often k must be taken until it comes round.
func orderIn(k int) int {
	n := 1
	for k*n%api.Whole != 0 {
		n++
	}
	return n
}

func TestOrderOfEachSpot(t *testing.T) {
	for k, s := range wholeWalk(t) {
		if got, err := Order(s); got != orderIn(k) || err != nil {
			t.Errorf("Order(%v) is %d, %v, want %d", s, got, err, orderIn(k))
		}
	}
}

func TestOrderIsTheLeastThatIsFar(t *testing.T) {
	for _, s := range samples(t) {
		if got, err := Order(s); got != len(walk(t, s)) || err != nil {
			t.Errorf("Order(%v) is %d, %v, want %d", s, got, err, len(walk(t, s)))
		}
	}
}

func TestInOfEachSpot(t *testing.T) {
	count := 0
	for k, s := range wholeWalk(t) {
		want := k*api.Q%api.Whole == 0
		if got, err := In(s); got != want || err != nil {
			t.Errorf("In(%v) is %v, %v, want %v", s, got, err, want)
		}
		if want {
			count++
		}
	}
	if count != api.Q {
		t.Errorf("%d of them count, want %d", count, api.Q)
	}
}

func TestOrderAndInByHand(t *testing.T) {
	cases := []struct {
		s     api.Spot
		order int
		in    bool
	}{
		{far, 1, true},
		{flat, 2, false},
		{Base(), api.Q, true},
		{api.Spot{X: 1865, Y: 3880}, api.Q, true},
		{api.Spot{X: 3180, Y: 1220}, 2 * api.Q, false},
		{api.Spot{X: 107, Y: 3793}, api.Whole, false},
		// Where X times X is 1 the line that touches goes through 0, 0, so that four times it is Far; at 1 there is no spot, at -1 there are two.
		{api.Spot{X: api.P - 1, Y: 90}, 4, false},
		{api.Spot{X: api.P - 1, Y: api.P - 90}, 4, false},
	}
	for _, c := range cases {
		if got, err := Order(c.s); got != c.order || err != nil {
			t.Errorf("Order(%v) is %d, %v, want %d", c.s, got, err, c.order)
		}
		if got, err := In(c.s); got != c.in || err != nil {
			t.Errorf("In(%v) is %v, %v, want %v", c.s, got, err, c.in)
		}
	}
}

// firstOfFour tells Base by the words of the document, added one by one.
func firstOfFour(t *testing.T) api.Spot {
	for x := range api.P {
		s, err := curve.Lift(x)
		if err != nil {
			continue
		}
		if four := add(t, add(t, add(t, s, s), s), s); !four.Far {
			return four
		}
	}
	t.Fatal("four times each of them is Far")
	return far
}

func TestBase(t *testing.T) {
	want := api.Spot{X: 1189, Y: 3667}
	if first := firstOfFour(t); first != want {
		t.Fatalf("four times the first is %v, want %v", first, want)
	}
	// It is the same one each time.
	for range 3 {
		if got := Base(); got != want {
			t.Errorf("Base() is %v, want %v", got, want)
		}
	}
}

func TestBaseComesByAllThatCount(t *testing.T) {
	l := walk(t, Base())
	if len(l) != api.Q {
		t.Fatalf("Base comes round after %d, want %d", len(l), api.Q)
	}
	for _, s := range l {
		if in, err := In(s); !in || err != nil {
			t.Errorf("In(%v) is %v, %v, want true", s, in, err)
		}
	}
}

// wrong is a spot, and what is told of it.
type wrong struct {
	s    api.Spot
	want api.Errno
}

// wrongs has spots that are none: out of range at each place, Far and somewhere, beside the curve.
func wrongs() (l []wrong) {
	for _, n := range []int{-1, -api.P, api.P, api.P + 1, math.MaxInt, math.MinInt} {
		l = append(l,
			wrong{api.Spot{X: n}, api.ErrRange},
			wrong{api.Spot{Y: n}, api.ErrRange},
			wrong{api.Spot{X: n, Y: 542}, api.ErrRange},
			wrong{api.Spot{X: 1014, Y: n}, api.ErrRange},
			wrong{api.Spot{X: n, Far: true}, api.ErrRange},
			wrong{api.Spot{Y: n, Far: true}, api.ErrRange},
		)
	}
	return append(l,
		wrong{api.Spot{X: 1014 + api.P, Y: 542}, api.ErrRange},
		wrong{api.Spot{X: 1014, Y: 542 - api.P}, api.ErrRange},
		wrong{api.Spot{X: 1, Far: true}, api.ErrRange},
		wrong{api.Spot{Y: 1, Far: true}, api.ErrRange},
		wrong{api.Spot{X: 1014, Y: 542, Far: true}, api.ErrRange},
		wrong{api.Spot{X: 1014, Y: 541}, api.ErrShape},
		wrong{api.Spot{X: 1014}, api.ErrShape},
		wrong{api.Spot{Y: 1}, api.ErrShape},
		wrong{api.Spot{X: api.P - 1, Y: api.P - 1}, api.ErrShape},
	)
}

func TestTimesTellsWhatIsWrong(t *testing.T) {
	for _, c := range wrongs() {
		// Also where nothing is added the spot is checked.
		for _, n := range counts(api.Q) {
			if got, err := Times(c.s, n); got != (api.Spot{}) || plain.Told(err) != c.want {
				t.Errorf("Times(%v, %d) is %v, %v, want %v", c.s, n, got, err, c.want)
			}
		}
	}
}

func TestOrderAndInTellWhatIsWrong(t *testing.T) {
	for _, c := range wrongs() {
		if got, err := Order(c.s); got != 0 || plain.Told(err) != c.want {
			t.Errorf("Order(%v) is %d, %v, want %v", c.s, got, err, c.want)
		}
		if got, err := In(c.s); got || plain.Told(err) != c.want {
			t.Errorf("In(%v) is %v, %v, want %v", c.s, got, err, c.want)
		}
	}
}
