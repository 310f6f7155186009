package prime

import (
	"math"
	"math/big"
	"testing"

	"pairstone/api"
	"pairstone/plain"
)

// edges are numbers at and around the bounds of the field and of int.
var edges = []int{
	0, 1, 2, -1, -2,
	api.P - 2, api.P - 1, api.P, api.P + 1,
	-api.P - 1, -api.P, -api.P + 1,
	2*api.P - 1, 2 * api.P, 2*api.P + 1, -2 * api.P,
	7376, -6254, 1 << 31, -1 << 31, 1 << 32, 3037000500, -3037000500,
	math.MaxInt - 1, math.MaxInt, math.MinInt + 1, math.MinInt,
}

// modulo is the field's number of a great one, told without int's arithmetic.
func modulo(n *big.Int) int {
	return int(new(big.Int).Mod(n, big.NewInt(api.P)).Int64())
}

func great(n int) *big.Int { return big.NewInt(int64(n)) }

func TestNumbersOfTheDocument(t *testing.T) {
	if api.P != 4051 {
		t.Errorf("P is %d, want 4051", api.P)
	}
}

func TestOfTellsOneOfTheField(t *testing.T) {
	cases := []struct{ n, want int }{
		{0, 0}, {1, 1}, {4050, 4050}, {4051, 0}, {4052, 1}, {8319, 217},
		{-1, 4050}, {-4050, 1}, {-4051, 0}, {-4052, 4050}, {-6254, 1848},
	}
	for _, c := range cases {
		if got := Of(c.n); got != c.want {
			t.Errorf("Of(%d) is %d, want %d", c.n, got, c.want)
		}
	}
	for n := -3 * api.P; n <= 3*api.P; n++ {
		if got := Of(n); got < 0 || got >= api.P || (n-got)%api.P != 0 {
			t.Errorf("Of(%d) is %d", n, got)
		}
	}
	for _, n := range edges {
		if got, want := Of(n), modulo(great(n)); got != want {
			t.Errorf("Of(%d) is %d, want %d", n, got, want)
		}
	}
}

func checkPair(t *testing.T, a, b int) {
	t.Helper()
	x, y := great(a), great(b)
	if got, want := Add(a, b), modulo(new(big.Int).Add(x, y)); got != want {
		t.Errorf("Add(%d, %d) is %d, want %d", a, b, got, want)
	}
	if got, want := Sub(a, b), modulo(new(big.Int).Sub(x, y)); got != want {
		t.Errorf("Sub(%d, %d) is %d, want %d", a, b, got, want)
	}
	if got, want := Mul(a, b), modulo(new(big.Int).Mul(x, y)); got != want {
		t.Errorf("Mul(%d, %d) is %d, want %d", a, b, got, want)
	}
}

func TestAddSubMulAreModuloP(t *testing.T) {
	for _, a := range edges {
		for _, b := range edges {
			checkPair(t, a, b)
		}
	}
	for a := 0; a < api.P; a += 37 {
		for b := 0; b < api.P; b += 41 {
			checkPair(t, a, b)
		}
	}
}

func TestInvIsByWhichItIsOne(t *testing.T) {
	for a := 1; a < api.P; a++ {
		got, err := Inv(a)
		if err != nil || got < 1 || got >= api.P || a*got%api.P != 1 {
			t.Errorf("Inv(%d) is %d, %v", a, got, err)
		}
	}
}

func TestInvOfZeroIsNone(t *testing.T) {
	for _, a := range []int{0, api.P, -api.P, 2 * api.P, -1000 * api.P, math.MaxInt / api.P * api.P, math.MinInt / api.P * api.P} {
		if got, err := Inv(a); got != 0 || plain.Told(err) != api.ErrNone {
			t.Errorf("Inv(%d) is %d, %v, want 0, ErrNone", a, got, err)
		}
	}
}

func TestPowIsSoManyTimesItself(t *testing.T) {
	for a := 0; a < api.P; a += 13 {
		want := 1
		for n := 0; n <= 200; n++ {
			if got, err := Pow(a, n); got != want || err != nil {
				t.Errorf("Pow(%d, %d) is %d, %v, want %d", a, n, got, err, want)
			}
			want = want * a % api.P
		}
	}
}

func TestPowOfNoneIsOne(t *testing.T) {
	for _, a := range edges {
		if got, err := Pow(a, 0); got != 1 || err != nil {
			t.Errorf("Pow(%d, 0) is %d, %v, want 1", a, got, err)
		}
	}
}

// n is no number of the field: it is not taken modulo P.
func TestPowTakesGreatN(t *testing.T) {
	for _, a := range edges {
		for _, n := range []int{api.P - 2, api.P - 1, api.P, api.P + 1, 1<<32 + 3, math.MaxInt - 1, math.MaxInt} {
			want := modulo(new(big.Int).Exp(great(modulo(great(a))), great(n), great(api.P)))
			if got, err := Pow(a, n); got != want || err != nil {
				t.Errorf("Pow(%d, %d) is %d, %v, want %d", a, n, got, err, want)
			}
		}
	}
}

func TestPowBelowZeroIsRange(t *testing.T) {
	for _, a := range edges {
		for _, n := range []int{-1, -2, -api.P, math.MinInt + 1, math.MinInt} {
			if got, err := Pow(a, n); got != 0 || plain.Told(err) != api.ErrRange {
				t.Errorf("Pow(%d, %d) is %d, %v, want 0, ErrRange", a, n, got, err)
			}
		}
	}
}

// leastRoots tells of each number that has a root the least one.
func leastRoots() map[int]int {
	roots := map[int]int{}
	for r := range api.P {
		if _, ok := roots[r*r%api.P]; !ok {
			roots[r*r%api.P] = r
		}
	}
	return roots
}

func checkSqrt(t *testing.T, a int, roots map[int]int) {
	t.Helper()
	got, err := Sqrt(a)
	want, ok := roots[modulo(great(a))]
	if !ok && (got != 0 || plain.Told(err) != api.ErrNone) {
		t.Errorf("Sqrt(%d) is %d, %v, want 0, ErrNone", a, got, err)
	}
	if ok && (got != want || err != nil) {
		t.Errorf("Sqrt(%d) is %d, %v, want %d", a, got, err, want)
	}
}

func TestSqrtIsTheLesserRoot(t *testing.T) {
	roots := leastRoots()
	for a := range api.P {
		checkSqrt(t, a, roots)
		checkSqrt(t, a-api.P, roots)
		checkSqrt(t, a+api.P, roots)
	}
	for _, a := range edges {
		checkSqrt(t, a, roots)
	}
}

func TestSqrtByHand(t *testing.T) {
	cases := []struct {
		a, want int
		told    api.Errno
	}{
		{0, 0, api.OK}, {api.P, 0, api.OK}, {1, 1, api.OK}, {4, 2, api.OK}, {1012, 1228, api.OK},
		{2, 0, api.ErrNone}, {-1, 0, api.ErrNone}, {api.P - 1, 0, api.ErrNone},
	}
	for _, c := range cases {
		if got, err := Sqrt(c.a); got != c.want || plain.Told(err) != c.told {
			t.Errorf("Sqrt(%d) is %d, %v, want %d, %v", c.a, got, err, c.want, c.told)
		}
	}
}

// What is handed in to Inv and Pow is taken modulo P first.
func TestAnyNumberCountsAsThatOfTheField(t *testing.T) {
	for _, a := range edges {
		in := modulo(great(a))
		got, err := Inv(a)
		want, bad := Inv(in)
		if got != want || plain.Told(err) != plain.Told(bad) {
			t.Errorf("Inv(%d) is %d, %v, want that of %d: %d, %v", a, got, err, in, want, bad)
		}
		got, err = Pow(a, 5)
		want, bad = Pow(in, 5)
		if got != want || plain.Told(err) != plain.Told(bad) {
			t.Errorf("Pow(%d, 5) is %d, %v, want that of %d: %d, %v", a, got, err, in, want, bad)
		}
	}
}
