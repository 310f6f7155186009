package twin

import (
	"math"
	"math/big"
	"testing"

	"pairstone/api"
	"pairstone/plain"
)

// edges are numbers at and around the bounds of the field and of int.
var edges = []int{
	0, 1, -1, 2, 217, api.P - 1, api.P, api.P + 1, -api.P - 1, -api.P, -api.P + 1,
	3037000500, -3037000500, math.MaxInt - 1, math.MaxInt, math.MinInt + 1, math.MinInt,
}

// zeros are numbers that are 0 modulo P.
var zeros = []int{0, api.P, -api.P, 2 * api.P, -1000 * api.P, math.MaxInt / api.P * api.P, math.MinInt / api.P * api.P}

// twinEdges has every two edges, as both parts.
func twinEdges() (l []api.Twin) {
	for _, a := range edges {
		for _, b := range edges {
			l = append(l, api.Twin{A: a, B: b})
		}
	}
	return l
}

// spread has numbers from all over the greater field, each reduced.
func spread() (l []api.Twin) {
	for a := 0; a < api.P; a += 79 {
		for b := 0; b < api.P; b += 83 {
			l = append(l, api.Twin{A: a, B: b})
		}
	}
	return l
}

func great(n int) *big.Int { return big.NewInt(int64(n)) }

func sum(x, y *big.Int) *big.Int     { return new(big.Int).Add(x, y) }
func less(x, y *big.Int) *big.Int    { return new(big.Int).Sub(x, y) }
func product(x, y *big.Int) *big.Int { return new(big.Int).Mul(x, y) }

// modulo is the field's number of a great one, told without int's arithmetic.
func modulo(n *big.Int) int {
	return int(new(big.Int).Mod(n, big.NewInt(api.P)).Int64())
}

// times is the product of two, told without int's arithmetic.
func times(a, b api.Twin) api.Twin {
	return api.Twin{
		A: modulo(less(product(great(a.A), great(b.A)), product(great(a.B), great(b.B)))),
		B: modulo(sum(product(great(a.A), great(b.B)), product(great(a.B), great(b.A)))),
	}
}

func TestOfTakesBothModuloP(t *testing.T) {
	for _, a := range twinEdges() {
		want := api.Twin{A: modulo(great(a.A)), B: modulo(great(a.B))}
		if got := Of(a); got != want {
			t.Errorf("Of(%v) is %v, want %v", a, got, want)
		}
	}
	for _, a := range spread() {
		if got := Of(a); got != a {
			t.Errorf("Of(%v) is %v, want it as it is", a, got)
		}
	}
}

func checkTwo(t *testing.T, a, b api.Twin) {
	t.Helper()
	want := api.Twin{A: modulo(sum(great(a.A), great(b.A))), B: modulo(sum(great(a.B), great(b.B)))}
	if got := Add(a, b); got != want {
		t.Errorf("Add(%v, %v) is %v, want %v", a, b, got, want)
	}
	if got, want := Mul(a, b), times(a, b); got != want {
		t.Errorf("Mul(%v, %v) is %v, want %v", a, b, got, want)
	}
}

func TestAddAndMulAreOfTheGreaterField(t *testing.T) {
	for _, a := range twinEdges() {
		for _, b := range twinEdges() {
			checkTwo(t, a, b)
		}
	}
	l := spread()
	for k, a := range l {
		checkTwo(t, a, l[len(l)-1-k])
	}
}

func TestByHand(t *testing.T) {
	i := api.Twin{B: 1}
	cases := []struct{ got, want api.Twin }{
		{Mul(i, i), api.Twin{A: api.P - 1}},
		{Mul(api.Twin{A: 1, B: 2}, api.Twin{A: 3, B: 4}), api.Twin{A: api.P - 5, B: 10}},
		{Add(api.Twin{A: 1, B: -2}, api.Twin{A: -3, B: 4}), api.Twin{A: api.P - 2, B: 2}},
		{Add(api.Twin{A: api.P - 1, B: 1}, api.Twin{A: 1, B: api.P - 1}), api.Twin{}},
		{Conj(api.Twin{A: 7, B: 2}), api.Twin{A: 7, B: 4049}},
		{Conj(api.Twin{A: -1}), api.Twin{A: api.P - 1}},
		{Conj(i), api.Twin{B: api.P - 1}},
	}
	for k, c := range cases {
		if c.got != c.want {
			t.Errorf("case %d is %v, want %v", k, c.got, c.want)
		}
	}
	if got := Norm(api.Twin{A: 7, B: 2}); got != 53 {
		t.Errorf("Norm of 7 and 2 is %d, want 53", got)
	}
}

func checkConjAndNorm(t *testing.T, a api.Twin) {
	t.Helper()
	want := api.Twin{A: modulo(great(a.A)), B: modulo(new(big.Int).Neg(great(a.B)))}
	if got := Conj(a); got != want {
		t.Errorf("Conj(%v) is %v, want %v", a, got, want)
	}
	// The product of both has nothing beside, and is the Norm.
	if got, want := (api.Twin{A: Norm(a)}), times(a, want); got != want {
		t.Errorf("Norm(%v) is %v, want %v", a, got, want)
	}
}

func TestConjAndNorm(t *testing.T) {
	for _, a := range append(twinEdges(), spread()...) {
		checkConjAndNorm(t, a)
	}
	for _, a := range zeros {
		for _, b := range zeros {
			it := api.Twin{A: a, B: b}
			if c, n := Conj(it), Norm(it); c != (api.Twin{}) || n != 0 {
				t.Errorf("Conj and Norm of %v, which is 0, are %v and %d", it, c, n)
			}
		}
	}
}

func checkInv(t *testing.T, a api.Twin) {
	t.Helper()
	got, err := Inv(a)
	if Of(a) == (api.Twin{}) {
		if got != (api.Twin{}) || plain.Told(err) != api.ErrNone {
			t.Errorf("Inv(%v) is %v, %v, want 0, ErrNone", a, got, err)
		}
		return
	}
	if err != nil || got != Of(got) || times(a, got) != (api.Twin{A: 1}) {
		t.Errorf("Inv(%v) is %v, %v", a, got, err)
	}
}

func TestInvIsByWhichItIsOne(t *testing.T) {
	for _, a := range append(twinEdges(), spread()...) {
		checkInv(t, a)
	}
	for n := 1; n < api.P; n++ {
		checkInv(t, api.Twin{A: n})
		checkInv(t, api.Twin{B: n})
		checkInv(t, api.Twin{A: n, B: n})
	}
}

func TestInvOfZeroIsNone(t *testing.T) {
	for _, a := range zeros {
		for _, b := range zeros {
			if got, err := Inv(api.Twin{A: a, B: b}); got != (api.Twin{}) || plain.Told(err) != api.ErrNone {
				t.Errorf("Inv(%d, %d) is %v, %v, want 0, ErrNone", a, b, got, err)
			}
		}
	}
}

func TestPowIsSoManyTimesItself(t *testing.T) {
	for _, a := range twinEdges() {
		want := api.Twin{A: 1}
		for n := range 70 {
			if got, err := Pow(a, n); got != want || err != nil {
				t.Errorf("Pow(%v, %d) is %v, %v, want %v", a, n, got, err, want)
			}
			want = times(want, a)
		}
	}
}

// slowPower goes from the highest bit of n down.
func slowPower(a api.Twin, n int) api.Twin {
	if n == 0 {
		return api.Twin{A: 1}
	}
	half := slowPower(a, n/2)
	if n%2 == 0 {
		return times(half, half)
	}
	return times(times(half, half), a)
}

// n is no number of the field: it is not taken modulo anything.
func TestPowTakesGreatN(t *testing.T) {
	many := []int{api.P - 1, api.P, api.P + 1, api.P*api.P - 1, api.P * api.P, 1<<32 + 3, math.MaxInt - 1, math.MaxInt}
	for _, a := range twinEdges() {
		for _, n := range many {
			if got, err := Pow(a, n); got != slowPower(a, n) || err != nil {
				t.Errorf("Pow(%v, %d) is %v, %v, want %v", a, n, got, err, slowPower(a, n))
			}
		}
	}
}

// P is 3 modulo 4, so that the power P is the Conj, and the power P + 1 the Norm.
func TestPowOfPIsConj(t *testing.T) {
	for _, a := range spread() {
		if got, err := Pow(a, api.P); got != Conj(a) || err != nil {
			t.Errorf("Pow(%v, P) is %v, %v, want %v", a, got, err, Conj(a))
		}
		if got, err := Pow(a, api.P+1); got != (api.Twin{A: Norm(a)}) || err != nil {
			t.Errorf("Pow(%v, P + 1) is %v, %v, want %d", a, got, err, Norm(a))
		}
	}
}

func TestPowBelowZeroIsRange(t *testing.T) {
	for _, a := range twinEdges() {
		for _, n := range []int{-1, -2, -api.P, math.MinInt + 1, math.MinInt} {
			if got, err := Pow(a, n); got != (api.Twin{}) || plain.Told(err) != api.ErrRange {
				t.Errorf("Pow(%v, %d) is %v, %v, want 0, ErrRange", a, n, got, err)
			}
		}
	}
}
