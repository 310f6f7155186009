package hash

import (
	"math/big"
	"strings"
	"testing"

	"pairstone/api"
	"pairstone/curve"
	"pairstone/times"
)

// known is a text, and all that comes of it.
type known struct {
	text         string
	long, number int
	spot         api.Spot
}

// byHand has texts of each kind, told apart from the program.
func byHand() []known {
	return []known{
		{"", 5, 5, api.Spot{X: 2955, Y: 3893}},
		{"a", 1413, 400, api.Spot{X: 144, Y: 873}},
		{"\x00", 1316, 303, api.Spot{X: 682, Y: 1500}},
		{"\xff", 1571, 558, api.Spot{X: 3975, Y: 3948}},
		{"\x00\x00", 346109, 676, api.Spot{X: 291, Y: 3830}},
		{"pay 5", 308796, 844, api.Spot{X: 812, Y: 1038}},
		{"pay 6", 308797, 845, api.Spot{X: 1366, Y: 3840}},
		// Its number is 0.
		{strings.Repeat("x", 60), 158028, 0, api.Spot{X: 2915, Y: 946}},
		{strings.Repeat("\xff", 100), 328717, 505, api.Spot{X: 1061, Y: 48}},
		// One letter of two bytes, the first of them alone, and what the letter's number would be as a byte.
		{"\xc3\xa9", 397563, 467, api.Spot{X: 573, Y: 3192}},
		{"\xc3", 1511, 498, api.Spot{X: 3490, Y: 2909}},
		{"\xe9", 1549, 536, api.Spot{X: 3089, Y: 592}},
		// The least and the greatest long number.
		{"\x0e\x13\xf5", 0, 0, api.Spot{X: 1189, Y: 3667}},
		{"\x0e\x13\xf4", 1000002, 1000002 % api.Q, api.Spot{X: 1923, Y: 3509}},
	}
}

func TestByHand(t *testing.T) {
	for _, c := range byHand() {
		// What comes of a text is the same each time.
		for range 2 {
			if got := Long(c.text); got != c.long {
				t.Errorf("Long(%q) is %d, want %d", c.text, got, c.long)
			}
			if got := Number(c.text); got != c.number {
				t.Errorf("Number(%q) is %d, want %d", c.text, got, c.number)
			}
			if got := Spot(c.text); got != c.spot {
				t.Errorf("Spot(%q) is %v, want %v", c.text, got, c.spot)
			}
		}
	}
}

// whole is the long number of a text before it is taken modulo 1000003: 5 times 263 for each byte, and each byte and 1, times 263 for each one behind it.
func whole(text string) *big.Int {
	sum, weight, base := new(big.Int), big.NewInt(1), big.NewInt(263)
	for k := len(text) - 1; k >= 0; k-- {
		part := big.NewInt(int64(text[k]) + 1)
		sum.Add(sum, part.Mul(part, weight))
		weight.Mul(weight, base)
	}
	return sum.Add(sum, weight.Mul(weight, big.NewInt(5)))
}

// longOf tells Long by great numbers, brought under 1000003 at the end alone.
func longOf(text string) int {
	return int(new(big.Int).Mod(whole(text), big.NewInt(1000003)).Int64())
}

// allBytes has each byte once, in order.
func allBytes() string {
	var b strings.Builder
	for k := range 256 {
		b.WriteByte(byte(k))
	}
	return b.String()
}

// shortTexts has all texts of up to two bytes.
func shortTexts() []string {
	l := []string{""}
	for i := range 256 {
		l = append(l, string([]byte{byte(i)}))
		for j := range 256 {
			l = append(l, string([]byte{byte(i), byte(j)}))
		}
	}
	return l
}

// longTexts has texts behind which the number has gone round often.
func longTexts() (l []string) {
	for _, piece := range []string{"\x00", "\xff", "x", "ab", "\x00\xff", "\x80", "\xe2\x82\xac", "pay 5 ", allBytes()} {
		for _, n := range []int{2, 3, 7, 60, 61, 255, 256, 257, 1000} {
			l = append(l, strings.Repeat(piece, n)[:n])
		}
		l = append(l, piece, strings.Repeat(piece, 3))
	}
	return l
}

func checkNumbers(t *testing.T, text string) {
	t.Helper()
	want := longOf(text)
	if got := Long(text); got != want {
		t.Errorf("Long(%q) is %d, want %d", text, got, want)
	}
	if got := Number(text); got != want%1013 {
		t.Errorf("Number(%q) is %d, want %d", text, got, want%1013)
	}
}

func TestLongAndNumberOfShortTexts(t *testing.T) {
	for _, text := range shortTexts() {
		checkNumbers(t, text)
	}
}

func TestLongAndNumberOfLongTexts(t *testing.T) {
	for _, text := range longTexts() {
		checkNumbers(t, text)
	}
	cases := []struct {
		text string
		want int
	}{
		{strings.Repeat("\x00", 1000), 775908},
		{strings.Repeat("\xff", 1000), 665957},
		{strings.Repeat("ab", 500), 784186},
		{allBytes(), 65047},
	}
	for _, c := range cases {
		if got := Long(c.text); got != c.want {
			t.Errorf("Long of %d bytes is %d, want %d", len(c.text), got, c.want)
		}
	}
}

// fours has, for each place, four times the spot there that Lift tells, added one by one: Far also where there is none.
func fours(t *testing.T) []api.Spot {
	l := make([]api.Spot, api.P)
	for x := range l {
		s, err := curve.Lift(x)
		l[x] = api.Spot{Far: true}
		if err != nil {
			continue
		}
		for range 4 {
			if l[x], err = curve.Add(l[x], s); err != nil {
				t.Fatalf("Add of %v: %v", s, err)
			}
		}
	}
	return l
}

// firstOf is the first k behind a text that has a spot, and that spot; the text is gone over anew for each k.
func firstOf(l []api.Spot, text string) (int, api.Spot) {
	for k := range 256 {
		if s := l[longOf(text+string([]byte{byte(k)}))%4051]; !s.Far {
			return k, s
		}
	}
	return 256, times.Base()
}

func checkSpot(t *testing.T, l []api.Spot, text string) int {
	t.Helper()
	k, want := firstOf(l, text)
	if got := Spot(text); got != want {
		t.Errorf("Spot(%q) is %v, want %v, by byte %d", text, got, want, k)
	}
	return k
}

func TestSpotIsTheFirst(t *testing.T) {
	l := fours(t)
	seen := map[int]int{}
	for _, text := range append(shortTexts(), longTexts()...) {
		seen[checkSpot(t, l, text)]++
	}
	// Each k that comes first for any text does so for some of these.
	for k := range 11 {
		if seen[k] == 0 {
			t.Errorf("byte %d is the first for no text", k)
		}
	}
}

func TestSpotCounts(t *testing.T) {
	for _, text := range append(longTexts(), shortTexts()...) {
		s := Spot(text)
		if s.Far || curve.Check(s) != nil {
			t.Errorf("Spot(%q) is %v", text, s)
		}
		if in, err := times.In(s); !in || err != nil {
			t.Errorf("In of Spot(%q) is %v, %v", text, in, err)
		}
	}
}

// placeOf is where Spot looks behind a text for byte k.
func placeOf(text string, k int) int {
	return longOf(text+string([]byte{byte(k)})) % 4051
}

// What stands at the places that are passed over, ahead of the one that is taken.
func TestSpotPassesOverWhatDoesNotDo(t *testing.T) {
	cases := []struct {
		text   string
		places []int
		want   api.Spot
	}{
		// The first byte does.
		{"pay 5", []int{2454}, api.Spot{X: 812, Y: 1038}},
		{"a", []int{2979}, api.Spot{X: 144, Y: 873}},
		{strings.Repeat("x", 60), []int{2204}, api.Spot{X: 2915, Y: 946}},
		// There is no spot at the first place.
		{"", []int{1316, 1317}, api.Spot{X: 2955, Y: 3893}},
		{"\xff", []int{4023, 4024, 4025}, api.Spot{X: 3975, Y: 3948}},
		{"\xc3", []int{396, 397, 398, 399, 400, 401, 402}, api.Spot{X: 3490, Y: 2909}},
		{"abap", []int{3755, 3756, 3757, 3758, 3759, 3760, 3761, 3762, 3763, 3764, 3765}, api.Spot{X: 3473, Y: 3889}},
		// There is one at 0 and at -1, but four times it is Far.
		{"nfu", []int{0, 1, 2, 3}, api.Spot{X: 1189, Y: 3667}},
		{"reg", []int{0, 1, 2, 3}, api.Spot{X: 1189, Y: 3667}},
		{"jfw", []int{4050, 0, 1, 2, 3}, api.Spot{X: 1189, Y: 3667}},
		// The number goes round 1000003 between two bytes.
		{"\x04!&", []int{3456, 0, 1, 2, 3}, api.Spot{X: 1189, Y: 3667}},
	}
	for _, c := range cases {
		for k, x := range c.places {
			if got := placeOf(c.text, k); got != x {
				t.Errorf("%q with byte %d is at %d, want %d", c.text, k, got, x)
			}
		}
		if got := Spot(c.text); got != c.want {
			t.Errorf("Spot(%q) is %v, want %v", c.text, got, c.want)
		}
	}
}

func TestCountedOfEachPlace(t *testing.T) {
	for _, x := range []int{0, api.P - 1} {
		if s, ok := counted(x); ok {
			t.Errorf("counted(%d) is %v, want none", x, s)
		}
	}
	for x, want := range fours(t) {
		if got, ok := counted(x); ok == want.Far || ok && got != want {
			t.Errorf("counted(%d) is %v, %v, want %v", x, got, ok, want)
		}
	}
}

// Behind each long number that there may be some byte has a spot, so that every text has one of its own.
func TestEachLongNumberHasASpot(t *testing.T) {
	l := fours(t)
	for n := range 1000003 {
		k := 0
		for k < 256 && l[(n*263+k+1)%1000003%4051].Far {
			k++
		}
		if k > 10 {
			t.Errorf("behind %d the first is byte %d, want at most 10", n, k)
		}
	}
}

// A text of many bytes is no harder than it is long.
func TestVeryLongText(t *testing.T) {
	const many = 1 << 24
	text := strings.Repeat("\x00\xff", many/2)
	want := 5
	for k := range many {
		want = (want*263 + k%2*255 + 1) % 1000003
	}
	if got := Long(text); got != want {
		t.Errorf("Long is %d, want %d", got, want)
	}
	if got := Number(text); got != want%1013 {
		t.Errorf("Number is %d, want %d", got, want%1013)
	}
	if s := Spot(text); s.Far || curve.Check(s) != nil {
		t.Errorf("Spot is %v", s)
	}
}

func TestTextsThatDifferByOneByte(t *testing.T) {
	// Neighbours in their last byte have neighbouring numbers, unless these go round.
	for k := range 255 {
		a, b := Long("pay "+string([]byte{byte(k)})), Long("pay "+string([]byte{byte(k + 1)}))
		if b != (a+1)%1000003 {
			t.Errorf("behind byte %d the number goes from %d to %d", k, a, b)
		}
	}
	// A byte 0 at the end, or ahead, is not nothing.
	for _, text := range []string{"", "a", "\x00", "pay 5"} {
		if Long(text) == Long(text+"\x00") || Long(text) == Long("\x00"+text) {
			t.Errorf("a byte 0 changes nothing at %q", text)
		}
	}
}
