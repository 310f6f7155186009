package bytes

import (
	"math"
	"slices"
	"strings"
	"testing"

	"pairstone/api"
	"pairstone/plain"
)

var far = api.Spot{Far: true}

// form is a spot, and its bytes.
type form struct {
	s api.Spot
	b string
}

// bytesOf makes a text of numbers.
func bytesOf(numbers ...int) string {
	var b strings.Builder
	for _, n := range numbers {
		b.WriteByte(byte(n))
	}
	return b.String()
}

// forms has every spot of the curve with its bytes, told by squaring every Y, without package curve: at each X the lesser Y comes first.
func forms() []form {
	roots := make([][]int, api.P)
	for y := range api.P {
		roots[y*y%api.P] = append(roots[y*y%api.P], y)
	}
	l := []form{{far, bytesOf(0)}}
	for x := range api.P {
		for k, y := range roots[(x*x%api.P*x+x)%api.P] {
			l = append(l, form{api.Spot{X: x, Y: y}, bytesOf(1+k, x/256, x%256)})
		}
	}
	return l
}

// byHand has the edges: Far, the one spot with Y 0, both at an X, an X at which a byte is full.
func byHand() []form {
	return []form{
		{far, "\x00"},
		{api.Spot{}, "\x01\x00\x00"},
		{api.Spot{X: 1014, Y: 542}, "\x01\x03\xf6"},
		{api.Spot{X: 1014, Y: 3509}, "\x02\x03\xf6"},
		{api.Spot{X: api.P - 1, Y: 90}, "\x01\x0f\xd2"},
		{api.Spot{X: api.P - 1, Y: api.P - 90}, "\x02\x0f\xd2"},
		{api.Spot{X: 190, Y: 332}, "\x01\x00\xbe"},
		{api.Spot{X: 190, Y: 3719}, "\x02\x00\xbe"},
		{api.Spot{X: 20, Y: 63}, "\x01\x00\x14"},
		{api.Spot{X: 264, Y: 2802}, "\x02\x01\x08"},
		{api.Spot{X: 1023, Y: 3536}, "\x02\x03\xff"},
	}
}

func checkPack(t *testing.T, c form) {
	t.Helper()
	if got, err := Pack(c.s); got != c.b || err != nil {
		t.Errorf("Pack(%v) is %q, %v, want %q", c.s, got, err, c.b)
	}
}

func checkUnpack(t *testing.T, c form) {
	t.Helper()
	if got, err := Unpack(c.b); got != c.s || err != nil {
		t.Errorf("Unpack(%q) is %v, %v, want %v", c.b, got, err, c.s)
	}
}

func checkSyntax(t *testing.T, b string) {
	t.Helper()
	if got, err := Unpack(b); got != (api.Spot{}) || plain.Told(err) != api.ErrSyntax {
		t.Errorf("Unpack(%q) is %v, %v, want ErrSyntax", b, got, err)
	}
}

func TestPackAndUnpackByHand(t *testing.T) {
	for _, c := range byHand() {
		checkPack(t, c)
		checkUnpack(t, c)
	}
}

func TestPackAndUnpackOfEachSpot(t *testing.T) {
	l := forms()
	if len(l) != api.Whole {
		t.Fatalf("%d spots, want %d", len(l), api.Whole)
	}
	for _, c := range l {
		checkPack(t, c)
		checkUnpack(t, c)
	}
}

// known has the bytes of each spot.
func known() map[string]api.Spot {
	m := map[string]api.Spot{}
	for _, c := range forms() {
		m[c.b] = c.s
	}
	return m
}

// checkKnown asks Unpack of bytes that may or may not be those of a spot.
func checkKnown(t *testing.T, all map[string]api.Spot, b string) {
	t.Helper()
	if s, ok := all[b]; ok {
		checkUnpack(t, form{s, b})
		return
	}
	checkSyntax(t, b)
}

func TestUnpackOfAllShortBytes(t *testing.T) {
	all := known()
	checkKnown(t, all, "")
	for i := range 256 {
		checkKnown(t, all, bytesOf(i))
		for j := range 256 {
			checkKnown(t, all, bytesOf(i, j))
		}
	}
}

func TestUnpackOfAllThreeBytes(t *testing.T) {
	all := known()
	for _, first := range []int{0, 1, 2, 3, 4, '0', '1', '2', 127, 128, 129, 130, 254, 255} {
		for x := range 1 << 16 {
			checkKnown(t, all, bytesOf(first, x/256, x%256))
		}
	}
}

func TestUnpackOfTooFewAndTooMany(t *testing.T) {
	for _, c := range forms() {
		checkSyntax(t, c.b+"\x00")
		checkSyntax(t, c.b+c.b)
		if c.s != far {
			checkSyntax(t, c.b[:2])
			checkSyntax(t, c.b[:1])
			checkSyntax(t, "\x00"+c.b)
		}
	}
	checkSyntax(t, strings.Repeat("\x00", 1<<16))
	checkSyntax(t, strings.Repeat("\x01", 1<<16))
}

func TestUnpackByHandIsSyntax(t *testing.T) {
	cases := []string{
		"", "\x01", "\x02", "\x03", "0", "\xff",
		"\x00\x00", "\x01\x03", "\x02\x03", "\x00\x00\x00", "\x00\x03\xf6",
		"\x03\x03\xf6", "1\x03\xf6", "\xff\x03\xf6", "\x81\x03\xf6",
		"\x01\x03\xf6\x00", "\x02\x03\xf6\x02",
		// 4051, which is 0 modulo P, 4051 and 1014, and the greatest one.
		"\x01\x0f\xd3", "\x02\x0f\xd3", "\x01\x13\xc9", "\x02\x13\xc9", "\x01\xff\xff", "\x02\xff\xff",
		// No spot is at 1 or 2201.
		"\x01\x00\x01", "\x02\x00\x01", "\x01\x08\x99", "\x02\x08\x99",
		// There is one spot alone at 0.
		"\x02\x00\x00",
		// The low byte first.
		"\x01\xf6\x03",
	}
	for _, b := range cases {
		checkSyntax(t, b)
	}
}

func checkList(t *testing.T, l []api.Spot, want string) {
	t.Helper()
	if got, err := List(l); got != want || err != nil {
		t.Errorf("List(%v) is %q, %v, want %q", l, got, err, want)
	}
}

func TestListByHand(t *testing.T) {
	checkList(t, nil, "\x00")
	checkList(t, []api.Spot{}, "\x00")
	checkList(t, []api.Spot{far}, "\x01\x00")
	checkList(t, []api.Spot{{}}, "\x01\x01\x00\x00")
	checkList(t, []api.Spot{far, far}, "\x02\x00\x00")
	checkList(t, []api.Spot{{X: 1014, Y: 3509}, far, {}, {X: 1014, Y: 542}}, "\x04\x02\x03\xf6\x00\x01\x00\x00\x01\x03\xf6")
	checkList(t, []api.Spot{{X: 1483, Y: 727}, {X: 681, Y: 1843}, {X: 608, Y: 1864}}, "\x03\x01\x05\xcb\x01\x02\xa9\x01\x02\x60")
}

func TestListOfEachLength(t *testing.T) {
	all := forms()
	for n := range api.MaxList + 1 {
		for from := 0; from+n <= len(all); from += 37 {
			var l []api.Spot
			want := bytesOf(n)
			for _, c := range all[from : from+n] {
				l = append(l, c.s)
				want += c.b
			}
			checkList(t, l, want)
		}
	}
}

// row has so many right spots.
func row(n int) (l []api.Spot) {
	all := forms()
	for k := range n {
		l = append(l, all[k*31%len(all)].s)
	}
	return l
}

func checkWrongList(t *testing.T, l []api.Spot, want api.Errno) {
	t.Helper()
	if got, err := List(l); got != "" || plain.Told(err) != want {
		t.Errorf("List(%v) is %q, %v, want %v", l, got, err, want)
	}
}

func TestListOfTooMany(t *testing.T) {
	for _, n := range []int{api.MaxList + 1, api.MaxList + 2, 255, 256, 257, 256 + api.MaxList, 1 << 16} {
		l := row(n)
		checkWrongList(t, l, api.ErrFull)
		// Too many is told ahead of what is wrong with one.
		l[0] = api.Spot{X: -1}
		checkWrongList(t, l, api.ErrFull)
		l[n-1] = api.Spot{Y: 1}
		checkWrongList(t, l, api.ErrFull)
	}
}

// wrong is a spot, and what is told of it.
type wrong struct {
	s    api.Spot
	want api.Errno
}

// wrongs has spots that are none: out of range at each place, Far and somewhere, beside the curve.
func wrongs() (l []wrong) {
	for _, n := range []int{-1, -api.P, api.P, api.P + 1, 1 << 16, math.MaxInt, math.MinInt} {
		l = append(l,
			wrong{api.Spot{X: n}, api.ErrRange},
			wrong{api.Spot{Y: n}, api.ErrRange},
			wrong{api.Spot{X: n, Y: 542}, api.ErrRange},
			wrong{api.Spot{X: 1014, Y: n}, api.ErrRange},
			wrong{api.Spot{X: n, Far: true}, api.ErrRange},
			wrong{api.Spot{Y: n, Far: true}, api.ErrRange},
		)
	}
	return append(l,
		wrong{api.Spot{X: 1014 + api.P, Y: 542}, api.ErrRange},
		wrong{api.Spot{X: 1014, Y: 542 - api.P}, api.ErrRange},
		wrong{api.Spot{X: 1, Far: true}, api.ErrRange},
		wrong{api.Spot{Y: 1, Far: true}, api.ErrRange},
		wrong{api.Spot{X: 1014, Y: 542, Far: true}, api.ErrRange},
		wrong{api.Spot{X: 1014, Y: 541}, api.ErrShape},
		wrong{api.Spot{X: 1014}, api.ErrShape},
		wrong{api.Spot{Y: 1}, api.ErrShape},
		wrong{api.Spot{X: 1}, api.ErrShape},
		wrong{api.Spot{X: api.P - 1, Y: api.P - 1}, api.ErrShape},
	)
}

func TestPackTellsWhatIsWrong(t *testing.T) {
	for _, c := range wrongs() {
		if got, err := Pack(c.s); got != "" || plain.Told(err) != c.want {
			t.Errorf("Pack(%v) is %q, %v, want %v", c.s, got, err, c.want)
		}
	}
}

func TestListTellsWhatIsWrongAtEachPlace(t *testing.T) {
	right := row(api.MaxList)
	for n := 1; n <= api.MaxList; n++ {
		for at := range n {
			for _, c := range wrongs() {
				l := slices.Clone(right[:n])
				l[at] = c.s
				checkWrongList(t, l, c.want)
			}
		}
	}
}

func TestListTellsOfTheFirstFirst(t *testing.T) {
	right := row(api.MaxList)
	ranged, shaped := api.Spot{X: -1}, api.Spot{Y: 1}
	for i := range api.MaxList {
		for j := i + 1; j < api.MaxList; j++ {
			l := slices.Clone(right)
			l[i], l[j] = ranged, shaped
			checkWrongList(t, l, api.ErrRange)
			l[i], l[j] = shaped, ranged
			checkWrongList(t, l, api.ErrShape)
		}
	}
}

func TestListLeavesWhatIsHandedIn(t *testing.T) {
	// Behind the length stands what is no spot: it is neither read nor written.
	whole := append(row(3), api.Spot{X: -1}, api.Spot{Y: 1})
	before := slices.Clone(whole)
	first, err := List(whole[:3])
	if err != nil || !slices.Equal(whole, before) {
		t.Errorf("List left %v, %v, want %v", whole, err, before)
	}
	kept := strings.Clone(first)
	whole[0] = api.Spot{}
	if second, err := List(whole[:3]); first != kept || second == first || err != nil {
		t.Errorf("List is %q, then %q, %v; the first was %q", first, second, err, kept)
	}
}
