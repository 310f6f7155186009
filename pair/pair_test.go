package pair

import (
	"math"
	"slices"
	"testing"

	"pairstone/api"
	"pairstone/curve"
	"pairstone/plain"
	"pairstone/times"
	"pairstone/twin"
)

var (
	far = api.Spot{Far: true}
	// flat has Y 0: twice it is Far, so that it does not count.
	flat = api.Spot{}
	unit = api.Twin{A: 1}
)

// modulo of a number that may be below 0, told without package prime.
func modulo(n int) int { return ((n % 4051) + 4051) % 4051 }

// mul is the product of two numbers of the greater field, told without package twin.
func mul(a, b api.Twin) api.Twin {
	return api.Twin{A: modulo(a.A*b.A - a.B*b.B), B: modulo(a.A*b.B + a.B*b.A)}
}

// power multiplies n of them one by one.
func power(a api.Twin, n int) api.Twin {
	product := unit
	for range n {
		product = mul(product, a)
	}
	return product
}

// inverses has, for each number of the field but 0, the one by which it is 1.
func inverses() []int {
	l := make([]int, 4051)
	l[1] = 1
	for n := 2; n < 4051; n++ {
		l[n] = modulo(-(4051 / n) * l[4051%n])
	}
	return l
}

// walk has 0, 1, 2 .. times a spot, added one by one, up to where it is Far again.
func walk(t *testing.T, s api.Spot) []api.Spot {
	l := []api.Spot{far}
	for at := s; !at.Far; {
		l = append(l, at)
		next, err := curve.Add(at, s)
		if err != nil || len(l) > api.Whole {
			t.Fatalf("%v does not come round: %v", s, err)
		}
		at = next
	}
	return l
}

// counted has all that count, as so many times Base.
func counted(t *testing.T) []api.Spot { return walk(t, times.Base()) }

// uncounted has all spots of the curve that are not In: those that no times of Base comes by.
func uncounted(t *testing.T) (l []api.Spot) {
	in := map[api.Spot]int{}
	for k, s := range counted(t) {
		in[s] = k + 1
	}
	for x := range api.P {
		s, err := curve.Lift(x)
		if err != nil {
			continue
		}
		if in[s] == 0 {
			l = append(l, s)
		}
		if up := (api.Spot{X: x, Y: modulo(-s.Y)}); up != s && in[up] == 0 {
			l = append(l, up)
		}
	}
	return l
}

// few has each step-th of a list, from the first on.
func few(step int, l []api.Spot) (some []api.Spot) {
	for k := 0; k < len(l); k += step {
		some = append(some, l[k])
	}
	return some
}

// lineAt is the value that the document names, with the slope told by inverses; upright lines count 1.
func lineAt(inv []int, at, by, b api.Spot) api.Twin {
	rise, run := modulo(by.Y-at.Y), modulo(by.X-at.X)
	if at == by {
		rise, run = modulo(3*at.X*at.X+1), modulo(2*at.Y)
	}
	if run == 0 {
		return unit
	}
	m := modulo(rise * inv[run])
	return api.Twin{A: modulo(m*(b.X+at.X) - at.Y), B: b.Y}
}

// raised is a number to the power (P times P, less 1) by Q, which is P - 1, and then 4.
func raised(n api.Twin) api.Twin { return power(power(n, 4050), 4) }

// byWords goes along the bits of Q by the words of the document; l is the walk of a.
func byWords(inv []int, l []api.Spot, b api.Spot) api.Twin {
	n, k := unit, 1
	for _, bit := range "111110101" {
		n = mul(mul(n, n), lineAt(inv, l[k], l[k], b))
		k = 2 * k
		if bit == '1' {
			n = mul(n, lineAt(inv, l[k], l[1], b))
			k++
		}
	}
	return raised(n)
}

// byOnes goes from a to Q times a by adding a alone. Both ways differ by upright lines, which the last power brings to 1.
func byOnes(inv []int, l []api.Spot, b api.Spot) api.Twin {
	n := unit
	for k := 1; k < len(l); k++ {
		n = mul(n, lineAt(inv, l[k], l[1], b))
	}
	return raised(n)
}

func checkPair(t *testing.T, a, b api.Spot, want api.Twin) {
	t.Helper()
	if got, err := Pair(a, b); got != want || err != nil {
		t.Errorf("Pair(%v, %v) is %v, %v, want %v", a, b, got, err, want)
	}
}

func TestPairByHand(t *testing.T) {
	cases := []struct {
		a, b api.Spot
		want api.Twin
	}{
		{api.Spot{X: 320, Y: 3015}, api.Spot{X: 1850, Y: 177}, api.Twin{A: 2365, B: 3582}},
		{api.Spot{X: 2061, Y: 2243}, api.Spot{X: 285, Y: 1832}, api.Twin{A: 2633, B: 1626}},
		{api.Spot{X: 2878, Y: 1961}, api.Spot{X: 320, Y: 3015}, api.Twin{A: 931, B: 2082}},
		{api.Spot{X: 2838, Y: 195}, api.Spot{X: 255, Y: 2181}, api.Twin{A: 673, B: 28}},
		{api.Spot{X: 1924, Y: 3536}, api.Spot{X: 1133, Y: 3505}, api.Twin{A: 47, B: 1421}},
	}
	for _, c := range cases {
		checkPair(t, c.a, c.b, c.want)
	}
}

func TestPairByTheWordsOfTheDocument(t *testing.T) {
	inv, l := inverses(), counted(t)
	for _, a := range few(101, l)[1:] {
		ofA := walk(t, a)
		for _, b := range few(83, l)[1:] {
			want := byWords(inv, ofA, b)
			if other := byOnes(inv, ofA, b); other != want {
				t.Fatalf("by ones it is %v, by the words %v", other, want)
			}
			checkPair(t, a, b, want)
		}
	}
}

func TestPairOfOneAndItselfAndItsTurnedOne(t *testing.T) {
	inv, l := inverses(), counted(t)
	for _, a := range few(37, l)[1:] {
		neg := api.Spot{X: a.X, Y: modulo(-a.Y)}
		want := byWords(inv, walk(t, a), a)
		checkPair(t, a, a, want)
		checkPair(t, neg, neg, want)
		// The one by which it is 1 is its Conj, as what comes of the last power has the Norm 1.
		turned := api.Twin{A: want.A, B: modulo(-want.B)}
		if mul(want, turned) != unit {
			t.Fatalf("%v times %v is not 1", want, turned)
		}
		checkPair(t, a, neg, turned)
		checkPair(t, neg, a, turned)
	}
}

func TestPairOfFarIsOne(t *testing.T) {
	for _, s := range counted(t) {
		checkPair(t, s, far, unit)
		checkPair(t, far, s, unit)
	}
	checkPair(t, far, far, unit)
}

// root is the Pair of Base and itself, and all its powers: those of 0 to Q - 1 are unlike each other, that of Q is 1.
func root(t *testing.T) []api.Twin {
	n, err := Pair(times.Base(), times.Base())
	if err != nil || n == unit {
		t.Fatalf("Pair of Base and Base is %v, %v", n, err)
	}
	l := []api.Twin{unit}
	for at := n; at != unit; at = mul(at, n) {
		if l = append(l, at); len(l) > api.Q {
			t.Fatalf("%v to the power Q is not 1", n)
		}
	}
	if len(l) != api.Q {
		t.Fatalf("%v comes round after %d, want %d", n, len(l), api.Q)
	}
	return l
}

// With u times Base and v times Base it is that of Base, u times v of them: all that bilinear says.
func TestPairIsBilinear(t *testing.T) {
	l, powers := counted(t), root(t)
	for u, a := range l {
		for _, v := range []int{0, 1, 2, 3, 4, 506, 507, 1000, 1011, 1012, u, modulo(u*u) % api.Q, (api.Q - u) % api.Q} {
			checkPair(t, a, l[v], powers[u*v%api.Q])
			checkPair(t, l[v], a, powers[u*v%api.Q])
		}
	}
	for u := 5; u < len(l); u += 19 {
		for v := 7; v < len(l); v += 17 {
			checkPair(t, l[u], l[v], powers[u*v%api.Q])
		}
	}
}

func TestPairOfSumsIsTheProduct(t *testing.T) {
	l := few(97, counted(t))
	for _, a := range l {
		for _, b := range l {
			sum, err := curve.Add(a, b)
			if err != nil {
				t.Fatal(err)
			}
			for _, c := range l {
				first, _ := Pair(a, c)
				second, _ := Pair(b, c)
				checkPair(t, sum, c, twin.Mul(first, second))
				checkPair(t, c, sum, twin.Mul(first, second))
			}
		}
	}
}

// wrong is a spot, and what is told of it.
type wrong struct {
	s    api.Spot
	want api.Errno
}

// wrongs has spots that are none: out of range at each place, Far and somewhere, beside the curve.
func wrongs() (l []wrong) {
	for _, n := range []int{-1, -api.P, api.P, api.P + 1, math.MaxInt, math.MinInt} {
		l = append(l,
			wrong{api.Spot{X: n}, api.ErrRange},
			wrong{api.Spot{Y: n}, api.ErrRange},
			wrong{api.Spot{X: n, Y: 3667}, api.ErrRange},
			wrong{api.Spot{X: 1189, Y: n}, api.ErrRange},
			wrong{api.Spot{X: n, Far: true}, api.ErrRange},
			wrong{api.Spot{Y: n, Far: true}, api.ErrRange},
		)
	}
	return append(l,
		wrong{api.Spot{X: 1189 + api.P, Y: 3667}, api.ErrRange},
		wrong{api.Spot{X: 1189, Y: 3667 - api.P}, api.ErrRange},
		wrong{api.Spot{X: 1, Far: true}, api.ErrRange},
		wrong{api.Spot{X: 1189, Y: 3667, Far: true}, api.ErrRange},
		wrong{api.Spot{X: 1189, Y: 3666}, api.ErrShape},
		wrong{api.Spot{X: 1189}, api.ErrShape},
		wrong{api.Spot{Y: 1}, api.ErrShape},
		wrong{api.Spot{X: api.P - 1, Y: api.P - 1}, api.ErrShape},
	)
}

// beside has spots of the curve that do not count, one of each order: 2, 4, twice Q and Whole.
func beside() []api.Spot {
	return []api.Spot{flat, {X: api.P - 1, Y: 90}, {X: 3180, Y: 1220}, {X: 107, Y: 3793}}
}

func checkWrongPair(t *testing.T, a, b api.Spot, want api.Errno) {
	t.Helper()
	if got, err := Pair(a, b); got != (api.Twin{}) || plain.Told(err) != want {
		t.Errorf("Pair(%v, %v) is %v, %v, want %v", a, b, got, err, want)
	}
}

func TestPairTellsWhatIsWrong(t *testing.T) {
	for _, c := range wrongs() {
		for _, right := range []api.Spot{far, times.Base(), {X: 320, Y: 3015}} {
			checkWrongPair(t, c.s, right, c.want)
			checkWrongPair(t, right, c.s, c.want)
		}
	}
}

func TestPairOfWhatDoesNotCount(t *testing.T) {
	l := uncounted(t)
	if len(l) != api.Whole-api.Q {
		t.Fatalf("%d do not count, want %d", len(l), api.Whole-api.Q)
	}
	for _, s := range l {
		// Also beside what is Far, and beside itself.
		for _, right := range []api.Spot{far, times.Base(), s} {
			checkWrongPair(t, s, right, api.ErrShape)
			checkWrongPair(t, right, s, api.ErrShape)
		}
	}
}

func TestPairTellsTheFirstFault(t *testing.T) {
	for _, a := range wrongs() {
		for _, b := range wrongs() {
			checkWrongPair(t, a.s, b.s, a.want)
		}
		// That one is on the curve but does not count is told behind what Check tells of the other one.
		for _, s := range beside() {
			checkWrongPair(t, a.s, s, a.want)
			checkWrongPair(t, s, a.s, a.want)
		}
	}
	for _, a := range beside() {
		for _, b := range beside() {
			checkWrongPair(t, a, b, api.ErrShape)
		}
	}
}

func checkSame(t *testing.T, a, b, c, d api.Spot, want bool) {
	t.Helper()
	if got, err := Same(a, b, c, d); got != want || err != nil {
		t.Errorf("Same(%v, %v, %v, %v) is %v, %v, want %v", a, b, c, d, got, err, want)
	}
}

// With so many times Base each, both are the same if the products of how many are, modulo Q.
func TestSameOfEachKind(t *testing.T) {
	l := counted(t)
	numbers := []int{0, 1, 2, 3, 4, 6, 12, 506, 507, 1011, 1012}
	for _, u := range numbers {
		for _, v := range numbers {
			for _, w := range numbers {
				for _, x := range numbers {
					checkSame(t, l[u], l[v], l[w], l[x], u*v%api.Q == w*x%api.Q)
				}
			}
		}
	}
}

func TestSameOfTheKeyAndTheSeal(t *testing.T) {
	l := counted(t)
	for k := 1; k < api.Q; k += 7 {
		// k times one and the other are as one and k times the other, and as none else.
		checkSame(t, l[k], l[29], l[1], l[29*k%api.Q], true)
		checkSame(t, l[k], l[29], l[1], l[(29*k+1)%api.Q], false)
		checkSame(t, l[k], l[29], l[1], l[(api.Q-29*k%api.Q)%api.Q], false)
		checkSame(t, l[k], far, far, l[k], true)
		checkSame(t, l[k], l[1], far, l[k], false)
	}
}

func checkWrongSame(t *testing.T, a, b, c, d api.Spot, want api.Errno) {
	t.Helper()
	if got, err := Same(a, b, c, d); got || plain.Told(err) != want {
		t.Errorf("Same(%v, %v, %v, %v) is %v, %v, want %v", a, b, c, d, got, err, want)
	}
}

// allWrongs has also those that are on the curve but do not count.
func allWrongs() []wrong {
	l := wrongs()
	for _, s := range beside() {
		l = append(l, wrong{s, api.ErrShape})
	}
	return l
}

func TestSameTellsWhatIsWrongAtEachPlace(t *testing.T) {
	for _, c := range allWrongs() {
		for _, right := range []api.Spot{far, times.Base()} {
			checkWrongSame(t, c.s, right, right, right, c.want)
			checkWrongSame(t, right, c.s, right, right, c.want)
			checkWrongSame(t, right, right, c.s, right, c.want)
			checkWrongSame(t, right, right, right, c.s, c.want)
		}
	}
}

func TestSameTellsOfTheFirstTwoFirst(t *testing.T) {
	base := times.Base()
	for _, a := range allWrongs() {
		for _, c := range allWrongs() {
			// What does not count among the first two is told ahead of what Check tells of the others.
			checkWrongSame(t, a.s, base, c.s, base, a.want)
			checkWrongSame(t, a.s, base, base, c.s, a.want)
			checkWrongSame(t, base, a.s, c.s, base, a.want)
			checkWrongSame(t, far, a.s, c.s, c.s, a.want)
		}
	}
	out, in := api.Spot{X: -1}, flat
	checkWrongSame(t, in, out, base, base, api.ErrRange)
	checkWrongSame(t, base, base, in, out, api.ErrRange)
	checkWrongSame(t, base, in, out, out, api.ErrShape)
}

func checkProduct(t *testing.T, l, m []api.Spot, want api.Twin) {
	t.Helper()
	if got, err := Product(l, m); got != want || err != nil {
		t.Errorf("Product(%v, %v) is %v, %v, want %v", l, m, got, err, want)
	}
}

func TestProductOfNoneIsOne(t *testing.T) {
	for _, l := range [][]api.Spot{nil, {}} {
		for _, m := range [][]api.Spot{nil, {}} {
			checkProduct(t, l, m, unit)
		}
	}
}

func TestProductByHand(t *testing.T) {
	checkProduct(t, []api.Spot{{X: 1112, Y: 579}}, []api.Spot{{X: 933, Y: 1085}}, api.Twin{A: 1126, B: 382})
	checkProduct(t,
		[]api.Spot{{X: 394, Y: 2539}, {X: 2892, Y: 432}},
		[]api.Spot{{X: 2865, Y: 3010}, {X: 2724, Y: 455}}, api.Twin{A: 2563, B: 3599})
}

// rows has two lists of so many, which are not alike, and the products of how many times Base they are, added up.
func rows(l []api.Spot, many, seed int) (a, b []api.Spot, sum int) {
	for k := range many {
		u, v := (seed*31+k*k*7+k)%api.Q, (seed*17+k*101)%api.Q
		a, b, sum = append(a, l[u]), append(b, l[v]), sum+u*v
	}
	return a, b, sum
}

func TestProductOfUpToMaxList(t *testing.T) {
	l, powers := counted(t), root(t)
	for many := range api.MaxList + 1 {
		for seed := range 40 {
			a, b, sum := rows(l, many, seed)
			checkProduct(t, a, b, powers[sum%api.Q])
		}
	}
}

func TestProductIsThatOfThePairs(t *testing.T) {
	l := counted(t)
	for many := range api.MaxList + 1 {
		a, b, _ := rows(l, many, many+3)
		want := unit
		for k := range a {
			n, err := Pair(a[k], b[k])
			if err != nil {
				t.Fatal(err)
			}
			want = mul(want, n)
		}
		checkProduct(t, a, b, want)
	}
	// Those that are Far count 1.
	base := times.Base()
	n, _ := Pair(base, base)
	checkProduct(t, []api.Spot{far, base, base, far}, []api.Spot{base, base, far, far}, n)
}

func checkWrongProduct(t *testing.T, l, m []api.Spot, want api.Errno) {
	t.Helper()
	if got, err := Product(l, m); got != (api.Twin{}) || plain.Told(err) != want {
		t.Errorf("Product(%v, %v) is %v, %v, want %v", l, m, got, err, want)
	}
}

func repeated(s api.Spot, many int) []api.Spot { return slices.Repeat([]api.Spot{s}, many) }

func TestProductOfHowMany(t *testing.T) {
	// What is wrong with those in it is told behind how many there are.
	for _, s := range []api.Spot{far, times.Base(), flat, {X: -1}, {Y: 1}} {
		for l := range 3*api.MaxList + 1 {
			for m := range 3*api.MaxList + 1 {
				switch {
				case l > api.MaxList || m > api.MaxList:
					checkWrongProduct(t, repeated(s, l), repeated(s, m), api.ErrFull)
				case l != m:
					checkWrongProduct(t, repeated(s, l), repeated(s, m), api.ErrShape)
				}
			}
		}
	}
}

func TestProductTellsWhatIsWrongAtEachPlace(t *testing.T) {
	for _, c := range allWrongs() {
		for many := 1; many <= api.MaxList; many++ {
			for k := range many {
				right, ill := repeated(times.Base(), many), repeated(times.Base(), many)
				ill[k] = c.s
				checkWrongProduct(t, ill, right, c.want)
				checkWrongProduct(t, right, ill, c.want)
			}
		}
	}
}

func TestProductTellsTheFirstFault(t *testing.T) {
	base, out, off := times.Base(), api.Spot{X: -1}, api.Spot{Y: 1}
	cases := []struct {
		l, m []api.Spot
		want api.Errno
	}{
		// Of one place Check of both comes first, then what does not count.
		{[]api.Spot{flat, base}, []api.Spot{out, base}, api.ErrRange},
		{[]api.Spot{off, base}, []api.Spot{out, base}, api.ErrShape},
		{[]api.Spot{out, base}, []api.Spot{off, base}, api.ErrRange},
		// Of places the first comes first, whichever list it is in.
		{[]api.Spot{base, out}, []api.Spot{flat, base}, api.ErrShape},
		{[]api.Spot{flat, out}, []api.Spot{base, out}, api.ErrShape},
		{[]api.Spot{base, base, out}, []api.Spot{base, off, base}, api.ErrShape},
		{[]api.Spot{base, base, off}, []api.Spot{far, out, flat}, api.ErrRange},
	}
	for _, c := range cases {
		checkWrongProduct(t, c.l, c.m, c.want)
	}
}

// Lists are read up to their length, and nothing is written into them, nor behind them.
func TestProductLeavesListsAlone(t *testing.T) {
	l, powers := counted(t), root(t)
	a, b, sum := rows(l, api.MaxList, 5)
	a, b = append(a, api.Spot{X: -1}, flat), append(b, flat, api.Spot{Y: -1})
	keptA, keptB := slices.Clone(a), slices.Clone(b)
	for range 2 {
		checkProduct(t, a[:api.MaxList], b[:api.MaxList], powers[sum%api.Q])
	}
	checkWrongProduct(t, a[1:], b[1:], api.ErrFull)
	checkWrongProduct(t, a[2:], b[2:], api.ErrRange)
	if !slices.Equal(a, keptA) || !slices.Equal(b, keptB) {
		t.Errorf("the lists are %v, %v, want %v, %v", a, b, keptA, keptB)
	}
	// One list may be both.
	want := unit
	for _, s := range a[:api.MaxList] {
		n, _ := Pair(s, s)
		want = mul(want, n)
	}
	checkProduct(t, a[:api.MaxList], a[:api.MaxList], want)
}
