package share

import (
	"math"
	"math/big"
	"slices"
	"testing"

	"pairstone/api"
	"pairstone/plain"
)

// none are numbers that are no number modulo Q, also where their lower bits, or what is left of them, are one.
func none() []int {
	return []int{-1, -2, -1012, -1013, -1014, 1013, 1014, 1015, 2025, 2026, 4051, 1 << 16, 1 << 32, 1<<32 + 1, 1 << 62, math.MaxInt, math.MinInt, math.MinInt + 1}
}

// noPlace are numbers at which no share stands.
func noPlace() []int { return append(none(), 0) }

// noCount are numbers of shares that may not be.
func noCount() []int {
	return []int{0, -1, -12, -13, 13, 14, 24, 256, 256 + 1, 1<<32 + 1, math.MaxInt, math.MinInt, math.MinInt + 1}
}

// twelve are unlike places, those at the edges among them.
func twelve() []int { return []int{1, 1012, 2, 1011, 3, 1010, 4, 1009, 5, 1008, 506, 507} }

// pick is a row of numbers that look as if by chance, the same ones each time.
type pick int

func (p *pick) below(n int) int {
	*p = (*p*1103515245 + 12345) & (1<<31 - 1)
	return int(*p>>8) % n
}

func (p *pick) coefs(many int) (l []int) {
	for range many {
		l = append(l, p.below(1013))
	}
	return l
}

// places are so many unlike ones.
func (p *pick) places(many int) (l []int) {
	for len(l) < many {
		if x := 1 + p.below(1012); !slices.Contains(l, x) {
			l = append(l, x)
		}
	}
	return l
}

func (p *pick) shuffled(l []api.Share) []api.Share {
	l = slices.Clone(l)
	for k := range l {
		other := k + p.below(len(l)-k)
		l[k], l[other] = l[other], l[k]
	}
	return l
}

// valueOf a polynomial as the document has it: powers and sums of numbers of any size, and what is left of them at last.
func valueOf(coefs []int, x int) int {
	sum := new(big.Int)
	for k, c := range coefs {
		power := new(big.Int).Exp(big.NewInt(int64(x)), big.NewInt(int64(k)), nil)
		sum.Add(sum, power.Mul(power, big.NewInt(int64(c))))
	}
	return int(sum.Mod(sum, big.NewInt(1013)).Int64())
}

// sharesOf a polynomial at places.
func sharesOf(coefs, xs []int) (l []api.Share) {
	for _, x := range xs {
		l = append(l, api.Share{X: x, Y: valueOf(coefs, x)})
	}
	return l
}

// upTo are the places 1 to n.
func upTo(n int) (l []int) {
	for x := range n {
		l = append(l, x+1)
	}
	return l
}

func with[T any](l []T, place int, other T) []T {
	l = slices.Clone(l)
	l[place] = other
	return l
}

// ends are the first place of a list of so many, one in the middle, and the last.
func ends(many int) []int { return []int{0, many / 2, many - 1} }

func checkSplit(t *testing.T, coefs []int, n int, want []api.Share) {
	t.Helper()
	if got, err := Split(coefs, n); !slices.Equal(got, want) || err != nil {
		t.Errorf("Split(%v, %d) is %v, %v, want %v", coefs, n, got, err, want)
	}
}

func failSplit(t *testing.T, coefs []int, n int, want api.Errno) {
	t.Helper()
	if got, err := Split(coefs, n); got != nil || plain.Told(err) != want {
		t.Errorf("Split(%v, %d) is %v, %v, want none, %v", coefs, n, got, err, want)
	}
}

func checkWeights(t *testing.T, xs, want []int) {
	t.Helper()
	if got, err := Weights(xs); !slices.Equal(got, want) || err != nil {
		t.Errorf("Weights(%v) is %v, %v, want %v", xs, got, err, want)
	}
}

func failWeights(t *testing.T, xs []int, want api.Errno) {
	t.Helper()
	if got, err := Weights(xs); got != nil || plain.Told(err) != want {
		t.Errorf("Weights(%v) is %v, %v, want none, %v", xs, got, err, want)
	}
}

func checkCombine(t *testing.T, l []api.Share, want int) {
	t.Helper()
	if got, err := Combine(l); got != want || err != nil {
		t.Errorf("Combine(%v) is %d, %v, want %d", l, got, err, want)
	}
}

func failCombine(t *testing.T, l []api.Share, want api.Errno) {
	t.Helper()
	if got, err := Combine(l); got != 0 || plain.Told(err) != want {
		t.Errorf("Combine(%v) is %d, %v, want 0, %v", l, got, err, want)
	}
}

func TestSplitByHand(t *testing.T) {
	ones := slices.Repeat([]int{1012}, 12)
	cases := []struct {
		coefs []int
		ys    []int
	}{
		{[]int{5}, []int{5, 5, 5}},
		{[]int{0}, []int{0}},
		{[]int{1012}, []int{1012, 1012}},
		{[]int{0, 1}, upTo(12)},
		{[]int{5, 1012}, []int{4, 3, 2, 1}},
		{[]int{7, 0, 0, 3}, []int{10, 31, 88, 199, 382}},
		{[]int{7, 0, 0, 3}, []int{10}},
		{[]int{7, 3, 0, 0}, []int{10, 13}},
		{[]int{100, 200, 300}, []int{600, 687, 361, 635, 496, 957}},
		{upTo(12), []int{78, 485, 578, 438, 619, 686, 153, 590, 626, 773, 748, 831}},
		{ones, []int{1001, 970, 699, 368, 120, 543, 401, 1000, 182, 541, 448, 634}},
		{with(make([]int, 12), 11, 1), []int{1, 22, 885}},
	}
	for _, c := range cases {
		var want []api.Share
		for k, y := range c.ys {
			want = append(want, api.Share{X: k + 1, Y: y})
		}
		checkSplit(t, c.coefs, len(c.ys), want)
	}
}

func TestSplitOfAnyPolynomial(t *testing.T) {
	p := pick(1)
	for many := 1; many <= 12; many++ {
		for n := 1; n <= 12; n++ {
			for range 10 {
				coefs := p.coefs(many)
				checkSplit(t, coefs, n, sharesOf(coefs, upTo(n)))
			}
		}
		for _, place := range ends(many) {
			for _, c := range []int{0, 1, 1012} {
				coefs := with(p.coefs(many), place, c)
				checkSplit(t, coefs, 12, sharesOf(coefs, upTo(12)))
			}
		}
	}
}

func TestSplitOfEachSecret(t *testing.T) {
	for secret := range 1013 {
		checkSplit(t, []int{secret}, 2, []api.Share{{X: 1, Y: secret}, {X: 2, Y: secret}})
		checkSplit(t, []int{0, secret}, 2, []api.Share{{X: 1, Y: secret}, {X: 2, Y: 2 * secret % 1013}})
	}
}

func TestSplitTellsTooManyFirst(t *testing.T) {
	for _, many := range []int{13, 14, 24, 256, 256 + 1, 1 << 16} {
		coefs := make([]int, many)
		failSplit(t, coefs, 3, api.ErrFull)
		failSplit(t, with(coefs, 0, -1), 3, api.ErrFull)
		failSplit(t, with(coefs, many-1, 1013), 3, api.ErrFull)
		for _, n := range noCount() {
			failSplit(t, coefs, n, api.ErrFull)
			failSplit(t, with(coefs, many/2, 1013), n, api.ErrFull)
		}
	}
}

func TestSplitTellsOfWrongNumbers(t *testing.T) {
	for _, n := range append(noCount(), 1, 3, 12) {
		failSplit(t, nil, n, api.ErrRange)
		failSplit(t, []int{}, n, api.ErrRange)
	}
	for _, n := range noCount() {
		failSplit(t, []int{5}, n, api.ErrRange)
		failSplit(t, upTo(12), n, api.ErrRange)
		failSplit(t, []int{5, -1}, n, api.ErrRange)
	}
	for _, c := range none() {
		for many := 1; many <= 12; many++ {
			for place := range many {
				failSplit(t, with(upTo(many), place, c), 1, api.ErrRange)
				failSplit(t, with(upTo(many), place, c), 12, api.ErrRange)
			}
		}
	}
}

func TestWeightsByHand(t *testing.T) {
	checkWeights(t, []int{1, 2}, []int{2, 1012})
	checkWeights(t, []int{2, 1}, []int{1012, 2})
	checkWeights(t, []int{1, 1012}, []int{507, 507})
	checkWeights(t, []int{1012, 1}, []int{507, 507})
	checkWeights(t, []int{1, 2, 3}, []int{3, 1010, 1})
	checkWeights(t, []int{3, 1, 2}, []int{1, 3, 1010})
	checkWeights(t, []int{5, 9, 700}, []int{578, 289, 147})
	checkWeights(t, upTo(12), []int{12, 947, 220, 518, 792, 89, 792, 518, 220, 947, 12, 1012})
	checkWeights(t, twelve(), []int{56, 56, 804, 804, 522, 522, 836, 836, 352, 352, 976, 976})
}

func TestWeightOfOneIsOne(t *testing.T) {
	for x := 1; x <= 1012; x++ {
		checkWeights(t, []int{x}, []int{1})
	}
}

// holdWeights sees by each power of x that the values there, times the weights, add up to the value at 0; what holds of all powers holds of each polynomial made of them.
func holdWeights(t *testing.T, xs []int) {
	t.Helper()
	weights, err := Weights(xs)
	if err != nil || len(weights) != len(xs) {
		t.Fatalf("Weights(%v) is %v, %v, want %d", xs, weights, err, len(xs))
	}
	for power := range xs {
		coefs := with(make([]int, power+1), power, 1)
		sum := 0
		for k, s := range sharesOf(coefs, xs) {
			if weights[k] < 0 || weights[k] > 1012 {
				t.Fatalf("Weights(%v) is %v: out of range", xs, weights)
			}
			sum += weights[k] * s.Y
		}
		if sum%1013 != coefs[0] {
			t.Fatalf("Weights(%v) is %v: of x to the %d the sum is %d", xs, weights, power, sum%1013)
		}
	}
}

func TestWeightsHoldOfEachPower(t *testing.T) {
	p := pick(2)
	for x := 1; x <= 1012; x++ {
		for _, other := range []int{1, 2, 506, 1011, 1012} {
			if x != other {
				holdWeights(t, []int{x, other})
				holdWeights(t, []int{other, x})
			}
		}
	}
	for many := 1; many <= 12; many++ {
		holdWeights(t, twelve()[:many])
		holdWeights(t, twelve()[12-many:])
		for range 30 {
			holdWeights(t, p.places(many))
		}
	}
}

func TestWeightsTellsHowManyFirst(t *testing.T) {
	failWeights(t, nil, api.ErrNone)
	failWeights(t, []int{}, api.ErrNone)
	for _, many := range []int{13, 14, 24, 256, 256 + 1, 1 << 16} {
		failWeights(t, upTo(many), api.ErrFull)
		failWeights(t, make([]int, many), api.ErrFull)
		failWeights(t, slices.Repeat([]int{1}, many), api.ErrFull)
	}
	failWeights(t, append(twelve(), 0), api.ErrFull)
	failWeights(t, append(twelve(), 1), api.ErrFull)
	checkWeights(t, upTo(13)[:12], []int{12, 947, 220, 518, 792, 89, 792, 518, 220, 947, 12, 1012})
}

func TestWeightsTellsOfWrongPlaces(t *testing.T) {
	for _, x := range noPlace() {
		for many := 1; many <= 12; many++ {
			for place := range many {
				failWeights(t, with(twelve()[:many], place, x), api.ErrRange)
			}
		}
	}
}

func TestWeightsTellsOfPlacesThatWereThere(t *testing.T) {
	for many := 2; many <= 12; many++ {
		for place := 1; place < many; place++ {
			for ahead := range place {
				failWeights(t, with(twelve()[:many], place, twelve()[ahead]), api.ErrClash)
			}
		}
	}
}

func TestWeightsTellsTheFirstFault(t *testing.T) {
	for _, x := range noPlace() {
		failWeights(t, []int{3, 3, x}, api.ErrClash)
		failWeights(t, []int{3, x, 3}, api.ErrRange)
		failWeights(t, []int{x, 3, 3}, api.ErrRange)
		failWeights(t, []int{3, 5, 3, 7, x}, api.ErrClash)
		failWeights(t, []int{3, 5, x, 7, 3}, api.ErrRange)
		failWeights(t, []int{x, x}, api.ErrRange)
		failWeights(t, []int{3, x, x, 3}, api.ErrRange)
	}
	failWeights(t, with(with(twelve(), 10, 1), 11, 0), api.ErrClash)
	failWeights(t, with(with(twelve(), 10, 0), 11, 1), api.ErrRange)
}

func TestCombineByHand(t *testing.T) {
	checkCombine(t, []api.Share{{X: 1, Y: 5}}, 5)
	checkCombine(t, []api.Share{{X: 1012, Y: 1012}}, 1012)
	checkCombine(t, []api.Share{{X: 7}}, 0)
	checkCombine(t, []api.Share{{X: 1, Y: 3}, {X: 2, Y: 5}}, 1)
	checkCombine(t, []api.Share{{X: 2, Y: 5}, {X: 1, Y: 3}}, 1)
	checkCombine(t, []api.Share{{X: 1}, {X: 1012, Y: 1012}}, 506)
	checkCombine(t, []api.Share{{X: 5, Y: 1}, {X: 9, Y: 1}, {X: 700, Y: 1}}, 1)
	checkCombine(t, []api.Share{{X: 5, Y: 100}, {X: 9, Y: 1012}, {X: 700}}, 783)
	checkCombine(t, sharesOf(with(make([]int, 12), 11, 1), upTo(12)), 0)
	// One coefficient more than there are shares: what they add up to is not the secret, and is told all the same.
	checkCombine(t, sharesOf(with(make([]int, 13), 12, 1), upTo(12)), 515)
	checkCombine(t, sharesOf([]int{1012}, upTo(12)), 1012)
}

func TestCombineOfOneIsItsY(t *testing.T) {
	for y := range 1013 {
		checkCombine(t, []api.Share{{X: 1, Y: y}}, y)
		checkCombine(t, []api.Share{{X: 1012 - y%1012, Y: y}}, y)
	}
}

// chosen are those of a list whose bits are set.
func chosen(l []api.Share, bits int) (out []api.Share) {
	for k, s := range l {
		if bits>>k&1 == 1 {
			out = append(out, s)
		}
	}
	return out
}

func TestAnySoManyTellTheSecret(t *testing.T) {
	p := pick(3)
	for many := 1; many <= 12; many++ {
		coefs := p.coefs(many)
		all, err := Split(coefs, 12)
		if err != nil {
			t.Fatalf("Split(%v, 12): %v", coefs, err)
		}
		for bits := range 1 << 12 {
			if l := chosen(all, bits); len(l) >= many {
				checkCombine(t, p.shuffled(l), coefs[0])
			}
		}
	}
}

func TestAnyPlacesTellTheSecret(t *testing.T) {
	p := pick(4)
	for many := 1; many <= 12; many++ {
		for places := many; places <= 12; places++ {
			for _, secret := range []int{0, 1, 506, 1012, p.below(1013)} {
				coefs := with(p.coefs(many), 0, secret)
				checkCombine(t, sharesOf(coefs, p.places(places)), secret)
				checkCombine(t, sharesOf(coefs, twelve()[:places]), secret)
			}
		}
	}
}

// Of one share fewer than there are coefficients, any secret may have been split.
func TestFewerLeaveItOpen(t *testing.T) {
	seen := map[int]bool{}
	for slope := range 1013 {
		// At 7 each of these polynomials is 100.
		coefs := []int{((100-7*slope)%1013 + 1013) % 1013, slope}
		l, err := Split(coefs, 8)
		if err != nil || l[6].Y != 100 {
			t.Fatalf("Split(%v, 8) is %v, %v, want 100 at 7", coefs, l, err)
		}
		got, err := Combine(l[6:])
		if err != nil || got != coefs[0] {
			t.Fatalf("Combine(%v) is %d, %v, want %d", l[6:], got, err, coefs[0])
		}
		seen[got] = true
	}
	if len(seen) != 1013 {
		t.Errorf("%d secrets, want 1013", len(seen))
	}
}

func TestCombineTellsHowManyFirst(t *testing.T) {
	failCombine(t, nil, api.ErrNone)
	failCombine(t, []api.Share{}, api.ErrNone)
	for _, many := range []int{13, 14, 24, 256, 256 + 1, 1 << 16} {
		l := sharesOf([]int{5}, upTo(many))
		failCombine(t, l, api.ErrFull)
		failCombine(t, with(l, 0, api.Share{X: 0, Y: 5}), api.ErrFull)
		failCombine(t, with(l, 1, l[0]), api.ErrFull)
		failCombine(t, with(l, 0, api.Share{X: 1, Y: -1}), api.ErrFull)
	}
	checkCombine(t, sharesOf([]int{5}, upTo(13))[:12], 5)
}

func TestCombineTellsOfWrongX(t *testing.T) {
	for _, x := range noPlace() {
		for many := 1; many <= 12; many++ {
			for place := range many {
				l := sharesOf([]int{9, 4}, twelve()[:many])
				failCombine(t, with(l, place, api.Share{X: x, Y: 3}), api.ErrRange)
			}
		}
		failCombine(t, []api.Share{{X: 3, Y: 1}, {X: 3, Y: 1}, {X: x, Y: 1}}, api.ErrClash)
		failCombine(t, []api.Share{{X: 3, Y: 1}, {X: x, Y: 1}, {X: 3, Y: 1}}, api.ErrRange)
	}
}

func TestCombineTellsOfXThatWasThere(t *testing.T) {
	for many := 2; many <= 12; many++ {
		for place := 1; place < many; place++ {
			for ahead := range place {
				l := sharesOf([]int{9, 4}, twelve()[:many])
				// The very share again, and another one at its place.
				failCombine(t, with(l, place, l[ahead]), api.ErrClash)
				failCombine(t, with(l, place, api.Share{X: l[ahead].X, Y: 1000}), api.ErrClash)
			}
		}
	}
}

func TestCombineTellsOfWrongY(t *testing.T) {
	for _, y := range none() {
		for many := 1; many <= 12; many++ {
			for place := range many {
				l := sharesOf([]int{9, 4}, twelve()[:many])
				failCombine(t, with(l, place, api.Share{X: l[place].X, Y: y}), api.ErrRange)
			}
		}
	}
	for _, place := range ends(12) {
		for _, y := range []int{0, 1012} {
			l := sharesOf([]int{y}, twelve())
			checkCombine(t, with(l, place, api.Share{X: l[place].X, Y: y}), y)
		}
	}
}

func TestCombineTellsOfXAheadOfY(t *testing.T) {
	for _, y := range none() {
		failCombine(t, []api.Share{{X: 3, Y: y}, {X: 3, Y: 1}}, api.ErrClash)
		failCombine(t, []api.Share{{X: 3, Y: 1}, {X: 3, Y: y}}, api.ErrClash)
		failCombine(t, []api.Share{{X: 1, Y: y}, {X: 2, Y: y}, {X: 3, Y: 1}, {X: 1, Y: 1}}, api.ErrClash)
		failCombine(t, []api.Share{{X: 0, Y: y}}, api.ErrRange)
		failCombine(t, with(sharesOf([]int{9, 4}, append(twelve()[:11], 1)), 0, api.Share{X: 1, Y: y}), api.ErrClash)
	}
}

func TestListsAreLeftAlone(t *testing.T) {
	numbers := []int{3, 1, 2, 1000, 0, -7}
	shares := []api.Share{{X: 3, Y: 5}, {X: 1, Y: 6}, {X: 2, Y: 7}, {X: 0, Y: -1}, {X: -7, Y: 9}}
	keptNumbers, keptShares := slices.Clone(numbers), slices.Clone(shares)
	for many := range len(numbers) + 1 {
		Split(numbers[:many], 4)
		Weights(numbers[:many])
	}
	for many := range len(shares) + 1 {
		Combine(shares[:many])
	}
	if !slices.Equal(numbers, keptNumbers) || !slices.Equal(shares, keptShares) {
		t.Errorf("lists are %v and %v, were %v and %v", numbers, shares, keptNumbers, keptShares)
	}
	// What lies behind a list's length is not read.
	checkSplit(t, numbers[:1], 2, []api.Share{{X: 1, Y: 3}, {X: 2, Y: 3}})
	checkWeights(t, numbers[:3], []int{1, 3, 1010})
	checkCombine(t, shares[:1], 5)
}

func TestAnswersAreFresh(t *testing.T) {
	coefs, xs := []int{7, 0, 0, 3}, []int{1}
	l, _ := Split(coefs, 2)
	l[0], l[1] = api.Share{}, api.Share{}
	_ = append(l, api.Share{})
	weights, _ := Weights(xs)
	weights[0] = 9
	_ = append(weights, 9)
	coefs[1], xs[0] = 1, 2
	checkSplit(t, coefs, 2, []api.Share{{X: 1, Y: 11}, {X: 2, Y: 33}})
	coefs[1], xs[0] = 0, 1
	checkSplit(t, coefs, 2, []api.Share{{X: 1, Y: 10}, {X: 2, Y: 31}})
	checkWeights(t, xs, []int{1})
	first, _ := Split(coefs, 2)
	second, _ := Split(coefs, 2)
	second[0].Y = 0
	if first[0].Y != 10 {
		t.Errorf("two answers share memory: %v", first)
	}
}
