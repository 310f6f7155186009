package curve

import (
	"math"
	"slices"
	"testing"

	"pairstone/api"
	"pairstone/plain"
)

var far = api.Spot{Far: true}

// outside are numbers that are not from 0 to P - 1.
var outside = []int{-1, -2, -api.P, -api.P - 1, api.P, api.P + 1, 2 * api.P, math.MaxInt - 1, math.MaxInt, math.MinInt + 1, math.MinInt}

// modulo of a number that may be below 0, told without package prime.
func modulo(n int) int { return ((n % api.P) + api.P) % api.P }

// ys has, for each x, every y that makes a spot of the curve, the lesser first: told by squaring all of them.
func ys() [][]int {
	roots := make([][]int, api.P)
	for y := range api.P {
		roots[y*y%api.P] = append(roots[y*y%api.P], y)
	}
	l := make([][]int, api.P)
	for x := range api.P {
		l[x] = roots[modulo(x*x%api.P*x+x)]
	}
	return l
}

// spots has all spots of the curve but the one that is Far, by X, then Y.
func spots() (l []api.Spot) {
	for x, roots := range ys() {
		for _, y := range roots {
			l = append(l, api.Spot{X: x, Y: y})
		}
	}
	return l
}

// every has each step-th of a list.
func every(step int, l []api.Spot) (few []api.Spot) {
	for k := 0; k < len(l); k += step {
		few = append(few, l[k])
	}
	return few
}

// wrong is a spot, and what is told of it.
type wrong struct {
	s    api.Spot
	want api.Errno
}

// wrongs has spots that are none: out of range at each place, Far and somewhere, beside the curve.
func wrongs() (l []wrong) {
	for _, n := range outside {
		l = append(l,
			wrong{api.Spot{X: n}, api.ErrRange},
			wrong{api.Spot{Y: n}, api.ErrRange},
			wrong{api.Spot{X: 1014, Y: n}, api.ErrRange},
			wrong{api.Spot{X: n, Y: 542}, api.ErrRange},
			wrong{api.Spot{X: n, Y: n}, api.ErrRange},
			wrong{api.Spot{X: n, Far: true}, api.ErrRange},
			wrong{api.Spot{Y: n, Far: true}, api.ErrRange},
			wrong{api.Spot{X: n, Y: n, Far: true}, api.ErrRange},
		)
	}
	return append(l,
		// These are spots modulo P, but not in range.
		wrong{api.Spot{X: 1014 + api.P, Y: 542}, api.ErrRange},
		wrong{api.Spot{X: 1014, Y: 542 - api.P}, api.ErrRange},
		wrong{api.Spot{X: 1014 - api.P, Y: 542 + api.P}, api.ErrRange},
		// What is Far has no place, though it be one of the curve.
		wrong{api.Spot{X: 1014, Y: 542, Far: true}, api.ErrRange},
		wrong{api.Spot{X: 1, Far: true}, api.ErrRange},
		wrong{api.Spot{Y: 1, Far: true}, api.ErrRange},
		wrong{api.Spot{X: api.P - 1, Y: api.P - 1, Far: true}, api.ErrRange},
		wrong{api.Spot{X: 1014, Y: 541}, api.ErrShape},
		wrong{api.Spot{X: 1014, Y: 543}, api.ErrShape},
		wrong{api.Spot{X: 1014}, api.ErrShape},
		wrong{api.Spot{Y: 1}, api.ErrShape},
		wrong{api.Spot{Y: api.P - 1}, api.ErrShape},
		wrong{api.Spot{X: api.P - 1}, api.ErrShape},
		wrong{api.Spot{X: api.P - 1, Y: api.P - 1}, api.ErrShape},
	)
}

func TestCheckOfEachPlace(t *testing.T) {
	l := ys()
	for x := range api.P {
		for _, y := range []int{0, 1, x, api.P - 2, api.P - 1} {
			want := api.ErrShape
			if slices.Contains(l[x], y) {
				want = api.OK
			}
			if err := Check(api.Spot{X: x, Y: y}); plain.Told(err) != want {
				t.Errorf("Check of %d, %d is %v, want %v", x, y, err, want)
			}
		}
		for y := x % 97; y < api.P; y += 97 {
			if err := Check(api.Spot{X: x, Y: y}); (err == nil) != slices.Contains(l[x], y) {
				t.Errorf("Check of %d, %d is %v, the curve has %v", x, y, err, l[x])
			}
		}
	}
}

func TestCheckOfAllSpots(t *testing.T) {
	l := append(spots(), far)
	if len(l) != api.Whole {
		t.Fatalf("%d spots, want %d", len(l), api.Whole)
	}
	for _, s := range l {
		if err := Check(s); err != nil {
			t.Errorf("Check(%v) is %v", s, err)
		}
	}
}

func TestCheckTellsWhatIsWrong(t *testing.T) {
	for _, c := range wrongs() {
		if err := Check(c.s); plain.Told(err) != c.want {
			t.Errorf("Check(%v) is %v, want %v", c.s, err, c.want)
		}
	}
}

func TestCheckAllTellsTheFirstFault(t *testing.T) {
	right := api.Spot{X: 1014, Y: 542}
	ranged, shaped := api.Spot{X: -1}, api.Spot{Y: 1}
	cases := []struct {
		l    []api.Spot
		want api.Errno
	}{
		{nil, api.OK},
		{[]api.Spot{}, api.OK},
		{[]api.Spot{right, far, {}}, api.OK},
		{[]api.Spot{right, far, ranged}, api.ErrRange},
		{[]api.Spot{right, shaped, right}, api.ErrShape},
		{[]api.Spot{shaped, ranged}, api.ErrShape},
		{[]api.Spot{ranged, shaped}, api.ErrRange},
	}
	for _, c := range cases {
		if err := CheckAll(c.l...); plain.Told(err) != c.want {
			t.Errorf("CheckAll(%v) is %v, want %v", c.l, err, c.want)
		}
	}
}

func TestLiftTakesTheLesserY(t *testing.T) {
	for x, roots := range ys() {
		want, told := api.Spot{}, api.ErrNone
		if len(roots) > 0 {
			want, told = api.Spot{X: x, Y: roots[0]}, api.OK
		}
		if got, err := Lift(x); got != want || plain.Told(err) != told {
			t.Errorf("Lift(%d) is %v, %v, want %v, %v", x, got, err, want, told)
		}
	}
}

func TestLiftByHand(t *testing.T) {
	cases := []struct {
		x    int
		want api.Spot
		told api.Errno
	}{
		{0, api.Spot{}, api.OK},
		{1014, api.Spot{X: 1014, Y: 542}, api.OK},
		{1, api.Spot{}, api.ErrNone},
		{2201, api.Spot{}, api.ErrNone},
		// -1 less 1 is -2, and 90 times 90 is 2 less than P twice.
		{api.P - 1, api.Spot{X: api.P - 1, Y: 90}, api.OK},
	}
	for _, c := range cases {
		if got, err := Lift(c.x); got != c.want || plain.Told(err) != c.told {
			t.Errorf("Lift(%d) is %v, %v, want %v, %v", c.x, got, err, c.want, c.told)
		}
	}
}

func TestLiftOutsideIsRange(t *testing.T) {
	for _, x := range append([]int{1014 + api.P, 1014 - api.P}, outside...) {
		if got, err := Lift(x); got != (api.Spot{}) || plain.Told(err) != api.ErrRange {
			t.Errorf("Lift(%d) is %v, %v, want ErrRange", x, got, err)
		}
	}
}

func TestNegTurnsY(t *testing.T) {
	for _, s := range spots() {
		want := api.Spot{X: s.X, Y: modulo(-s.Y)}
		if got, err := Neg(s); got != want || err != nil {
			t.Errorf("Neg(%v) is %v, %v, want %v", s, got, err, want)
		}
	}
	// What is Far, and what has Y 0, is its own.
	for _, s := range []api.Spot{far, {}} {
		if got, err := Neg(s); got != s || err != nil {
			t.Errorf("Neg(%v) is %v, %v, want it as it is", s, got, err)
		}
	}
}

func TestNegTellsWhatIsWrong(t *testing.T) {
	for _, c := range wrongs() {
		if got, err := Neg(c.s); got != (api.Spot{}) || plain.Told(err) != c.want {
			t.Errorf("Neg(%v) is %v, %v, want %v", c.s, got, err, c.want)
		}
	}
}

func checkAdd(t *testing.T, a, b, want api.Spot) {
	t.Helper()
	if got, err := Add(a, b); got != want || err != nil {
		t.Errorf("Add(%v, %v) is %v, %v, want %v", a, b, got, err, want)
	}
}

func TestAddByHand(t *testing.T) {
	a := api.Spot{X: 2678, Y: 778}
	checkAdd(t, a, a, api.Spot{X: 3290, Y: 3135})
	checkAdd(t, a, api.Spot{X: 2678, Y: 3273}, far)
	checkAdd(t, api.Spot{X: 2830, Y: 1983}, api.Spot{X: 2953, Y: 2560}, api.Spot{X: 2307, Y: 2710})
	checkAdd(t, api.Spot{X: 1428, Y: 2367}, api.Spot{}, api.Spot{X: 2295, Y: 1549})
	// One twice with Y 0 is its own Neg.
	checkAdd(t, api.Spot{}, api.Spot{}, far)
	checkAdd(t, far, far, far)
	checkAdd(t, far, api.Spot{}, api.Spot{})
	checkAdd(t, api.Spot{}, far, api.Spot{})
}

func TestAddOfFarAndOfNeg(t *testing.T) {
	for _, s := range spots() {
		checkAdd(t, s, far, s)
		checkAdd(t, far, s, s)
		neg := api.Spot{X: s.X, Y: modulo(-s.Y)}
		checkAdd(t, s, neg, far)
		checkAdd(t, neg, s, far)
	}
}

// meets tells whether the line through a, of slope m, meets the curve at a, b and c, and nowhere else, each as often as it is named:
// the difference of both, a polynomial of degree 3 with 1 ahead, is the product of its three roots if it is so at three places.
func meets(a, b, c api.Spot, m int) bool {
	lineAt := func(x int) int { return modulo(a.Y + m*(x-a.X)) }
	if lineAt(b.X) != b.Y || lineAt(c.X) != c.Y {
		return false
	}
	for x := range 3 {
		y := lineAt(x)
		if modulo(x*x*x+x-y*y) != modulo(modulo((x-a.X)*(x-b.X))*(x-c.X)) {
			return false
		}
	}
	return true
}

// checkLine holds a sum against the words of the document: some line meets the curve at both and at its Neg.
func checkLine(t *testing.T, a, b api.Spot) {
	t.Helper()
	sum, err := Add(a, b)
	if err != nil || sum.Far {
		t.Errorf("Add(%v, %v) is %v, %v", a, b, sum, err)
		return
	}
	c := api.Spot{X: sum.X, Y: modulo(-sum.Y)}
	for m := range api.P {
		if meets(a, b, c, m) {
			return
		}
	}
	t.Errorf("Add(%v, %v) is %v, but no line meets the curve there so", a, b, sum)
}

func TestAddIsOnTheLine(t *testing.T) {
	few := every(67, spots())
	for _, a := range few {
		for _, b := range few {
			if a.X != b.X {
				checkLine(t, a, b)
			}
		}
	}
}

func TestAddOfOneTwiceTouches(t *testing.T) {
	for _, s := range every(3, spots()) {
		if s.Y != 0 {
			checkLine(t, s, s)
		}
	}
}

// walk has 0, 1, 2 .. times a spot, up to where it is Far again.
func walk(t *testing.T, s api.Spot) []api.Spot {
	l := []api.Spot{far}
	for at := s; !at.Far; {
		if len(l) > api.Whole {
			t.Fatalf("%v never comes round", s)
		}
		l = append(l, at)
		next, err := Add(at, s)
		if err != nil {
			t.Fatalf("Add(%v, %v): %v", at, s, err)
		}
		at = next
	}
	return l
}

// wholeWalk is that of the first spot that comes by all of them.
func wholeWalk(t *testing.T) []api.Spot {
	for _, s := range spots() {
		if l := walk(t, s); len(l) == api.Whole {
			return l
		}
	}
	t.Fatal("no spot comes by all of them")
	return nil
}

func TestAddMakesAGroup(t *testing.T) {
	l := wholeWalk(t)
	seen := map[api.Spot]bool{}
	for _, s := range l {
		seen[s] = true
	}
	for _, s := range append(spots(), far) {
		if !seen[s] {
			t.Errorf("the walk does not come by %v", s)
		}
	}
	for i := 0; i < len(l); i += 13 {
		for j := 0; j < len(l); j += 29 {
			checkAdd(t, l[i], l[j], l[(i+j)%len(l)])
		}
	}
}

func TestEachSpotComesRound(t *testing.T) {
	for _, s := range every(41, spots()) {
		if n := len(walk(t, s)); api.Whole%n != 0 {
			t.Errorf("%v comes round after %d, which does not divide %d", s, n, api.Whole)
		}
	}
}

func checkWrongAdd(t *testing.T, a, b api.Spot, want api.Errno) {
	t.Helper()
	if got, err := Add(a, b); got != (api.Spot{}) || plain.Told(err) != want {
		t.Errorf("Add(%v, %v) is %v, %v, want %v", a, b, got, err, want)
	}
}

func TestAddTellsWhatIsWrong(t *testing.T) {
	for _, c := range wrongs() {
		// Also beside what adds nothing the other one is checked.
		for _, right := range []api.Spot{far, {}, {X: 1014, Y: 542}, {X: 1014, Y: 3509}} {
			checkWrongAdd(t, c.s, right, c.want)
			checkWrongAdd(t, right, c.s, c.want)
		}
	}
}

func TestAddTellsOfTheFirstFirst(t *testing.T) {
	for _, a := range wrongs() {
		for _, b := range wrongs() {
			checkWrongAdd(t, a.s, b.s, a.want)
		}
	}
}

func checkSlope(t *testing.T, a, b api.Spot, want int, wrong api.Errno) {
	t.Helper()
	if got, err := Slope(a, b); got != want || plain.Told(err) != wrong {
		t.Errorf("Slope(%v, %v) is %d, %v, want %d, %v", a, b, got, err, want, wrong)
	}
}

func TestSlopeIsThatOfTheLine(t *testing.T) {
	few := every(67, spots())
	for _, a := range few {
		for _, b := range few {
			sum, err := Add(a, b)
			if err != nil {
				t.Fatalf("Add(%v, %v): %v", a, b, err)
			}
			if sum.Far {
				checkSlope(t, a, b, 0, api.ErrNone)
				continue
			}
			m, err := Slope(a, b)
			if err != nil || m < 0 || m >= api.P || !meets(a, b, api.Spot{X: sum.X, Y: modulo(-sum.Y)}, m) {
				t.Errorf("Slope(%v, %v) is %d, %v", a, b, m, err)
			}
		}
	}
}

func TestSlopeOfUprightLines(t *testing.T) {
	for _, s := range spots() {
		checkSlope(t, s, api.Spot{X: s.X, Y: modulo(-s.Y)}, 0, api.ErrNone)
		checkSlope(t, s, far, 0, api.ErrNone)
		checkSlope(t, far, s, 0, api.ErrNone)
	}
	checkSlope(t, far, far, 0, api.ErrNone)
}

func TestSlopeTellsWhatIsWrong(t *testing.T) {
	for _, a := range wrongs() {
		for _, right := range []api.Spot{far, {}, {X: 1014, Y: 542}} {
			checkSlope(t, a.s, right, 0, a.want)
			checkSlope(t, right, a.s, 0, a.want)
		}
		for _, b := range wrongs() {
			checkSlope(t, a.s, b.s, 0, a.want)
		}
	}
}
