package run

import (
	"errors"
	"fmt"
	"regexp"
	"slices"
	"strconv"
	"strings"
	"testing"

	"pairstone/api"
	"pairstone/curve"
	"pairstone/hash"
	"pairstone/hide"
	"pairstone/pair"
	"pairstone/plain"
	"pairstone/seal"
	"pairstone/share"
	"pairstone/short"
	"pairstone/times"
)

// form of a line of the document's table (N is a number, TEXT goes up to the end), and what its layer's own calls tell.
type form struct {
	line string
	told func(n []int, text string) (string, error)
}

func spotText(s api.Spot) string {
	if s.Far {
		return "far"
	}
	return fmt.Sprintf("%d %d", s.X, s.Y)
}

// many times Base; no error can come of it.
func many(n int) api.Spot {
	s, err := times.Times(times.Base(), n)
	if err != nil {
		panic(err)
	}
	return s
}

func forms() []form {
	return []form{
		{"base N", func(n []int, _ string) (string, error) {
			return spotText(many(n[0])), nil
		}},
		{"lift N", func(n []int, _ string) (string, error) {
			s, err := curve.Lift(n[0])
			return spotText(s), err
		}},
		{"order N", func(n []int, _ string) (string, error) {
			order, err := times.Order(many(n[0]))
			return fmt.Sprint(order), err
		}},
		{"hash TEXT", func(_ []int, text string) (string, error) {
			return fmt.Sprint(hash.Number(text)), nil
		}},
		{"pair N N", func(n []int, _ string) (string, error) {
			t, err := pair.Pair(many(n[0]), many(n[1]))
			return fmt.Sprintf("%d %d", t.A, t.B), err
		}},
		{"sign N N TEXT", func(n []int, text string) (string, error) {
			s, err := seal.Sign(n[0], n[1], text)
			return fmt.Sprintf("%d %d %d", s.R.X, s.R.Y, s.S), err
		}},
		{"short N TEXT", func(n []int, text string) (string, error) {
			s, err := short.Sign(n[0], text)
			return spotText(s), err
		}},
		{"hide N N", func(n []int, _ string) (string, error) {
			s, err := hide.Hide(n[0], n[1])
			return spotText(s), err
		}},
		{"shares N N N", func(n []int, _ string) (string, error) {
			l, err := share.Split([]int{n[0], n[1]}, n[2])
			told := ""
			for _, s := range l {
				told += fmt.Sprintf(" %d", s.Y)
			}
			return strings.TrimPrefix(told, " "), err
		}},
	}
}

// with is a form's line with these in its places, first to last.
func (f form) with(places ...string) string {
	words := strings.Split(f.line, " ")
	for k, p := range places {
		words[1+k] = p
	}
	return strings.Join(words, " ")
}

// numbers is how many N a form has.
func (f form) numbers() int { return strings.Count(f.line, "N") }

func (f form) hasText() bool { return strings.HasSuffix(f.line, "TEXT") }

// ordinary is a form's line with numbers that no layer refuses, and a text.
func (f form) ordinary() string {
	return f.with([]string{"7", "9", "3"}[:f.numbers()]...)
}

// filled is a form's line with each N the same word, and a text.
func (f form) filled(word, text string) string {
	places := slices.Repeat([]string{word}, f.numbers())
	if f.hasText() {
		places = append(places, text)
	}
	return f.with(places...)
}

// table tells by the document's words, apart from the program, what each line is answered.
type table struct {
	forms []form
	reads []*regexp.Regexp
}

func newTable() table {
	w := table{forms: forms()}
	words := strings.NewReplacer("N", "(0|[1-9][0-9]{0,3})", "TEXT", "(.*)")
	for _, f := range w.forms {
		w.reads = append(w.reads, regexp.MustCompile(`(?s)\A`+words.Replace(f.line)+`\z`))
	}
	return w
}

// answer to a line.
func (w table) answer(line string) string {
	for k, f := range w.forms {
		m := w.reads[k].FindStringSubmatch(line)
		if m == nil {
			continue
		}
		var n []int
		for _, word := range m[1 : 1+f.numbers()] {
			one, err := strconv.Atoi(word)
			if err != nil {
				panic(err)
			}
			n = append(n, one)
		}
		told, err := f.told(n, m[len(m)-1])
		if err != nil {
			return plain.Told(err).Error()
		}
		return told
	}
	return "bad"
}

// all that a text is answered.
func (w table) all(text string) string {
	if len(text) > 3000 {
		return "too long\n"
	}
	pieces := strings.Split(text, "\n")
	if last := len(pieces) - 1; pieces[last] == "" {
		pieces = pieces[:last]
	}
	var out strings.Builder
	for _, line := range pieces {
		out.WriteString(w.answer(line) + "\n")
	}
	return out.String()
}

func check(t *testing.T, text, want string) {
	t.Helper()
	if got := Run(text); got != want {
		t.Errorf("Run(%q) is %q, want %q", text, got, want)
	}
}

// check a text against the table.
func (w table) check(t *testing.T, text string) {
	t.Helper()
	check(t, text, w.all(text))
}

// lines are put into texts that are not too long, and each is held against the table.
func (w table) lines(t *testing.T, l []string) {
	t.Helper()
	for len(l) > 0 {
		n, size := 0, 0
		for n < len(l) && size+len(l[n])+1 <= 3000 {
			size += len(l[n]) + 1
			n++
		}
		if n == 0 {
			t.Fatalf("%q is too long a line", l[0])
		}
		w.some(t, l[:n])
		l = l[n:]
	}
}

func (w table) some(t *testing.T, l []string) {
	t.Helper()
	got := strings.SplitAfter(Run(strings.Join(l, "\n")+"\n"), "\n")
	if len(got) != len(l)+1 || got[len(l)] != "" {
		t.Errorf("%q is answered %q", l, got)
		return
	}
	for k, line := range l {
		if want := w.answer(line) + "\n"; got[k] != want {
			t.Errorf("%q is answered %q, want %q", line, got[k], want)
		}
	}
}

// same answer to each of many lines.
func same(t *testing.T, want string, l ...string) {
	t.Helper()
	for _, line := range l {
		check(t, line, want+"\n")
		check(t, line+"\n", want+"\n")
		check(t, "base 1\n"+line+"\nlift 0", "1189 3667\n"+want+"\n0 0\n")
	}
}

// pick is a row of numbers that look as if by chance, the same ones each time.
type pick int

func (p *pick) below(n int) int {
	*p = (*p*1103515245 + 12345) & (1<<31 - 1)
	return int(*p>>8) % n
}

func (p *pick) of(l []string) string { return l[p.below(len(l))] }

// word that is an N: some at the edges, most below Q, and any other.
func (p *pick) word() string {
	switch p.below(8) {
	case 0:
		return p.of(edges())
	case 1:
		return fmt.Sprint(p.below(10000))
	}
	return fmt.Sprint(p.below(1013))
}

// text without byte 10, of any other bytes.
func (p *pick) text() string {
	if p.below(4) == 0 {
		return p.of(texts())
	}
	b := make([]byte, p.below(63))
	for k := range b {
		if b[k] = byte(p.below(256)); b[k] == '\n' {
			b[k] = ' '
		}
	}
	return string(b)
}

// line of any kind, now and then one that is bad.
func (p *pick) line(w table) string {
	f := w.forms[p.below(len(w.forms))]
	var places []string
	for range f.numbers() {
		places = append(places, p.word())
	}
	// Of shares the last number is small, if any are to come of it.
	if f.numbers() == 3 && p.below(4) > 0 {
		places[2] = fmt.Sprint(p.below(14))
	}
	if f.hasText() {
		places = append(places, p.text())
	}
	line := f.with(places...)
	switch p.below(12) {
	case 0:
		return p.hurt(line)
	case 1:
		return p.of([]string{"", " ", "fly", "base", "BASE 1", "far", "too long", "bad", "lift x"})
	}
	return line
}

// hurt is a line with one byte less, one more, or another one.
func (p *pick) hurt(line string) string {
	if line == "" {
		return " "
	}
	at := p.below(len(line))
	b := p.of([]string{" ", "0", "1", "-", "+", "x", "A", "\t", "\r", "\x00", "\xff", "9"})
	switch p.below(3) {
	case 0:
		return line[:at] + line[at+1:]
	case 1:
		return line[:at] + b + line[at:]
	}
	return line[:at] + b + line[at+1:]
}

// edges are numbers at which a layer's answer turns.
func edges() []string {
	return []string{"0", "1", "2", "3", "11", "12", "13", "506", "507", "1011", "1012", "1013", "1014", "2025", "2026", "2027", "4050", "4051", "4052", "4053", "9998", "9999"}
}

// texts that a line may have at its end, of up to MaxText bytes and one more.
func texts() []string {
	return []string{
		"", "a", "pay 5", "hello world",
		" ", "  ", " a", "a ", "  a  b  ", strings.Repeat(" ", 60), strings.Repeat(" ", 61),
		"7", "7 9", "0", "01", "-1", "far", "bad", "base 1",
		"\x00", "\r", "\t", "a\r", "\x0b", "\x7f", "\x80", "\xff", "\xc3\xa9", "\xe2\x82\xac", "\xe2\x82", "\xc2\xa0",
		strings.Repeat("x", 59), strings.Repeat("x", 60), strings.Repeat("x", 61),
		strings.Repeat("\xff", 60), strings.Repeat("\xff", 61),
		// As letters these are fewer than MaxText.
		strings.Repeat("\xe2\x82\xac", 20), strings.Repeat("\xe2\x82\xac", 20) + "a", strings.Repeat("\xc3\xa9", 31),
	}
}

func TestByHand(t *testing.T) {
	cases := []struct{ line, want string }{
		{"base 0", "far"},
		{"base 1", "1189 3667"},
		{"base 29", "1710 1841"},
		{"base 1012", "1189 384"},
		{"base 1013", "far"},
		{"base 1014", "1189 3667"},
		{"base 2026", "far"},
		{"base 9117", "far"},
		{"lift 0", "0 0"},
		{"lift 1014", "1014 542"},
		{"lift 1189", "1189 384"},
		{"lift 4050", "4050 90"},
		{"lift 9", "ErrNone"},
		{"lift 4051", "ErrRange"},
		{"lift 9999", "ErrRange"},
		{"order 0", "1"},
		{"order 1", "1013"},
		{"order 1013", "1"},
		{"order 1014", "1013"},
		{"order 9999", "1013"},
		{"hash ", "5"},
		{"hash pay 5", "844"},
		{"hash hello world", "329"},
		{"pair 0 0", "1 0"},
		{"pair 0 5", "1 0"},
		{"pair 5 1013", "1 0"},
		{"pair 4 1022", "3901 1754"},
		{"pair 36 1", "3901 1754"},
		{"sign 29 300 pay 5", "607 1325 199"},
		{"sign 77 5 pay 6", "1923 542 434"},
		{"sign 1 8 a", "3641 4003 866"},
		{"sign 0 8 a", "ErrRange"},
		{"short 29 pay 5", "228 1059"},
		{"short 77 pay 6", "2133 136"},
		{"short 11 ", "136 597"},
		{"short 1013 a", "ErrRange"},
		{"hide 226 606", "2511 316"},
		{"hide 0 0", "far"},
		{"hide 1 0", "1189 3667"},
		{"hide 0 1", "607 1325"},
		{"hide 713 1", "far"},
		{"hide 0 1013", "ErrRange"},
		{"shares 29 500 5", "529 16 516 3 503"},
		{"shares 0 1 6", "1 2 3 4 5 6"},
		{"shares 1012 0 2", "1012 1012"},
		{"shares 1012 1012 1", "1011"},
		{"shares 29 500 0", "ErrRange"},
	}
	var text, want string
	for _, c := range cases {
		same(t, c.want, c.line)
		text += c.line + "\n"
		want += c.want + "\n"
	}
	check(t, text, want)
	check(t, strings.TrimSuffix(text, "\n"), want)
}

func TestEachNumberOfBaseLiftAndOrder(t *testing.T) {
	w := newTable()
	var l []string
	for n := range 10000 {
		l = append(l, fmt.Sprint("base ", n), fmt.Sprint("lift ", n))
		if n < 1100 || n%101 == 0 {
			l = append(l, fmt.Sprint("order ", n))
		}
	}
	w.lines(t, l)
}

func TestLinesOfTwoNumbersAtTheEdges(t *testing.T) {
	w := newTable()
	var l []string
	for _, a := range edges() {
		for _, b := range edges() {
			l = append(l, "pair "+a+" "+b, "hide "+a+" "+b, "sign "+a+" "+b+" pay 5")
			for _, n := range []string{"0", "1", "2", "11", "12", "13", "9999"} {
				l = append(l, "shares "+a+" "+b+" "+n)
			}
		}
		l = append(l, "short "+a+" pay 5")
	}
	w.lines(t, l)
}

// A pair of so many times Base, both, hangs on their product modulo Q alone: told without package pair.
func TestPairsGoByTheProduct(t *testing.T) {
	p := pick(1)
	for range 200 {
		a, b := p.below(10000), p.below(10000)
		check(t, fmt.Sprintf("pair %d %d", a, b), Run(fmt.Sprintf("pair %d 1", a*b%1013)))
	}
}

func TestPickedLines(t *testing.T) {
	w, p := newTable(), pick(2)
	var l []string
	for range 6000 {
		l = append(l, p.line(w))
	}
	w.lines(t, l)
	// Of all kinds of answers some must have been among them.
	told := map[string]int{}
	for _, line := range l {
		told[w.answer(line)]++
	}
	for _, kind := range []string{"bad", "ErrRange", "ErrFull", "ErrNone", "far"} {
		if told[kind] < 5 {
			t.Errorf("of %q there are but %d", kind, told[kind])
		}
	}
}

// good are words that are an N: of one, two, three and four digits.
func good() []string {
	return []string{"0", "1", "9", "10", "42", "99", "100", "102", "999", "1000", "1010", "2000", "4052", "9999"}
}

// noNumbers are words that are none: none at all, too many digits, a needless 0, a sign, or what is no digit.
func noNumbers() []string {
	return []string{
		"",
		"10000", "10001", "12345", "99999", "100000", "65536", "65537", "4294967297", "9223372036854775807", "9223372036854775808",
		"18446744073709551616", "18446744073709551617", strings.Repeat("9", 100), "-9223372036854775808",
		"00", "01", "09", "007", "0007", "0000", "00000", "00001", strings.Repeat("0", 30) + "1",
		"-", "+", "-0", "+0", "-1", "+1", "--1", "1-", "1+", "-999", "-9999",
		"x", "1x", "x1", "1x1", "o", "l", "0x1", "0b1", "0o7", "1_0", "1e1", "1.", ".1", "1.0", "1,0", "'1'", "\"1\"", "#", "N",
		"1\t", "\t1", "1\r", "\r1", "1\x00", "\x001", "1\x0b", "\x0c1", "1\xa0", "1\xc2\xa0", "\xc2\xa01", "\xff", "/", ":",
		// One of other scripts.
		"\xd9\xa1", "\xef\xbc\x91", "\xc2\xb9", "\xe2\x85\xa0",
		"far", "base",
	}
}

func TestNumbersThatCanBeRead(t *testing.T) {
	w := newTable()
	var l []string
	for _, f := range w.forms {
		for _, word := range good() {
			line := f.filled(word, "pay 5")
			if w.answer(line) == "bad" {
				t.Errorf("%q is bad by the table of the tests", line)
			}
			l = append(l, line)
		}
	}
	w.lines(t, l)
}

func TestWordsThatAreNoNumbers(t *testing.T) {
	for _, f := range forms() {
		for at := range f.numbers() {
			for _, word := range noNumbers() {
				places := []string{"7", "9", "3"}[:f.numbers()]
				places[at] = word
				same(t, "bad", f.with(places...))
			}
		}
	}
}

// A word that cannot be read is told ahead of what a layer would tell of the others, whichever of them it is.
func TestBadGoesAheadOfErrors(t *testing.T) {
	long := strings.Repeat("x", 61)
	same(t, "bad",
		"hide 9999 01", "hide 01 9999", "hide 10000 9999",
		"sign 9999 x "+long, "sign x 9999 "+long, "sign 1 01 "+long, "short 01 "+long, "short 10000 "+long,
		"shares 9999 9999 99999", "shares x 9999 99", "shares 9999 -1 99", "lift 10000", "lift 04051",
	)
}

func TestWordsLessAndMore(t *testing.T) {
	for _, f := range forms() {
		words := strings.Split(f.ordinary(), " ")
		for n := 1; n < len(words); n++ {
			less := strings.Join(words[:n], " ")
			same(t, "bad", less)
			// With a blank behind a last word of no bytes is there: only a text may be so.
			if !f.hasText() || n < len(words)-1 {
				same(t, "bad", less+" ")
			}
		}
		if !f.hasText() {
			same(t, "bad", f.ordinary()+" 1", f.ordinary()+" x", f.ordinary()+" "+f.ordinary(), f.ordinary()+" far")
		}
	}
	// All words are there, but not where they have to be.
	same(t, "bad", "7 base", "7 lift", "7 9 pair", "pair7 9", "pair 79", "base7", "hashpay", "short7 a", "sign 79 a", "shares 7 93")
}

func TestOneBlankBetween(t *testing.T) {
	for _, f := range forms() {
		words := strings.Split(f.ordinary(), " ")
		for n := 1; n < len(words); n++ {
			for _, between := range []string{"  ", "   ", "\t", " \t", "\t ", "", ",", ", ", "\r", "\xc2\xa0", "\x00", "\x0b"} {
				line := strings.Join(words[:n], " ") + between + strings.Join(words[n:], " ")
				if f.hasText() && n == len(words)-1 && strings.HasPrefix(between, " ") {
					// What is behind the one blank is of the text already.
					continue
				}
				same(t, "bad", line)
			}
		}
	}
}

func TestBlanksAheadAndBehind(t *testing.T) {
	for _, f := range forms() {
		for _, outside := range []string{" ", "  ", "\t", "\r", "\x00", "\xc2\xa0", "\xef\xbb\xbf"} {
			same(t, "bad", outside+f.ordinary())
			if !f.hasText() {
				same(t, "bad", f.ordinary()+outside)
			}
		}
	}
}

func TestTexts(t *testing.T) {
	w := newTable()
	for _, text := range texts() {
		for _, f := range w.forms {
			if f.hasText() {
				line := f.filled("7", text)
				if w.answer(line) == "bad" {
					t.Errorf("%q is bad by the table of the tests", line)
				}
				same(t, w.answer(line), line)
			}
		}
	}
}

// Each byte but byte 10 is one of a text like any other, at its beginning, between, and at its end.
func TestTextsOfEachByte(t *testing.T) {
	w := newTable()
	var l []string
	for b := range 256 {
		if b == '\n' {
			continue
		}
		one := string([]byte{byte(b)})
		for _, text := range []string{one, one + "a", "a" + one, "a" + one + "a", one + one} {
			l = append(l, "hash "+text, "short 7 "+text, "sign 7 9 "+text)
		}
	}
	w.lines(t, l)
}

// Told without a layer: chapter 6's rule, byte by byte.
func TestHashOfTextsByItsRule(t *testing.T) {
	p := pick(3)
	l := texts()
	for range 300 {
		l = append(l, p.text())
	}
	l = append(l, strings.Repeat("x", 2995), strings.Repeat("\xff", 2995), strings.Repeat(" ", 2995))
	for _, text := range l {
		long := 5
		for _, b := range []byte(text) {
			long = (long*263 + int(b) + 1) % 1000003
		}
		check(t, "hash "+text, fmt.Sprintf("%d\n", long%1013))
	}
}

func TestTextIsNoWord(t *testing.T) {
	// All texts are unlike each other: no blank is taken off, or put together with another one.
	for _, word := range []string{"hash ", "short 7 ", "sign 7 9 "} {
		told := map[string]string{}
		for _, text := range []string{"", " ", "  ", "a", " a", "a ", " a ", "a  b", "a b", "a\t", "A"} {
			answer := Run(word + text)
			if was, ok := told[answer]; ok {
				t.Errorf("%q and %q are both answered %q", word+was, word+text, answer)
			}
			told[answer] = text
		}
	}
}

func TestOtherLines(t *testing.T) {
	same(t, "bad",
		"fly", "fly 1", "fly 1 2", "fly 1 2 3", "1", "1 2", "N", "base N", "order N N",
		"BASE 1", "Base 1", "bASE 1", "basE 1", "LIFT 0", "Lift 0", "ORDER 1", "Order 1", "HASH a", "Hash a", "PAIR 1 1", "Pair 1 1",
		"SIGN 1 1 a", "Sign 1 1 a", "SHORT 1 a", "Short 1 a", "HIDE 1 1", "Hide 1 1", "SHARES 1 1 1", "Shares 1 1 1",
		"bas 1", "bases 1", "share 1 1 1", "sharess 1 1 1", "has a", "hashs a", "hashes a", "b 1", "s 1 1 a", "shorts 1 a", "hid 1 1", "hides 1 1", "pairs 1 1",
		"base: 1", "base\x00 1", "\x00base 1", "bas\xc3\xa9 1", "\xc3\x9base 1", "# base 1", "//", "-", "base=1", "base(1)",
		"key 1", "number a", "spot a", "verify 1 1 a", "open 1 1", "split 1 1 1", "far", "yes", "no", "bad", "too long", "ErrRange", "OK",
		" ", "  ", "\t", "\r", "\x00", "\xff", "\x0b",
	)
	check(t, "\n", "bad\n")
}

// Each byte alone, and ahead of or behind a word, is one of a line that is bad.
func TestOneByteBeside(t *testing.T) {
	for b := range 256 {
		if b == '\n' {
			continue
		}
		one := string([]byte{byte(b)})
		check(t, one, "bad\n")
		check(t, one+"base 1", "bad\n")
		check(t, "base"+one+"1", map[bool]string{true: "1189 3667\n", false: "bad\n"}[b == ' '])
		if b < '0' || b > '9' {
			check(t, "base 1"+one, "bad\n")
			check(t, "base "+one+"1", "bad\n")
		}
	}
}

func TestErrorsByTheirNames(t *testing.T) {
	at, over := strings.Repeat("x", 60), strings.Repeat("x", 61)
	same(t, "ErrRange", "lift 4051", "lift 4052", "lift 9999")
	same(t, "ErrNone", "lift 9", "lift 726", "lift 1737", "lift 3952")
	same(t, "ErrRange",
		"sign 0 1 a", "sign 1 0 a", "sign 0 0 a", "sign 1013 1 a", "sign 1 1013 a", "sign 9999 1 a", "sign 1 9999 a",
		// Behind it the text is too long as well.
		"sign 0 1 "+over, "sign 1 0 "+over, "sign 1013 1 "+over, "sign 1 9999 "+over,
		"short 0 a", "short 1013 a", "short 9999 a", "short 0 ", "short 0 "+over, "short 1013 "+over,
	)
	same(t, "ErrFull",
		"sign 1 1 "+over, "sign 1012 1012 "+over, "sign 7 9 "+over+over, "sign 7 9 "+strings.Repeat(" ", 61), "sign 7 9 "+strings.Repeat("\xc3\xa9", 31),
		"short 1 "+over, "short 1012 "+over, "short 7 "+over+over, "short 7 "+strings.Repeat(" ", 61), "short 7 "+strings.Repeat("\xc3\xa9", 31),
		"sign 7 9 "+strings.Repeat("x", 2900), "short 7 "+strings.Repeat("x", 2900),
	)
	same(t, "ErrRange",
		"hide 1013 0", "hide 0 1013", "hide 1013 1013", "hide 9999 1", "hide 1 9999",
		"shares 1013 0 1", "shares 0 1013 1", "shares 9999 0 1", "shares 0 9999 1", "shares 1013 1013 13",
		"shares 0 0 0", "shares 7 9 0", "shares 7 9 13", "shares 7 9 14", "shares 7 9 268", "shares 7 9 9999",
	)
	for _, line := range []string{"sign 1 1 " + at, "sign 1012 1012 " + at, "short 1 " + at, "short 1012 " + at, "hide 1012 1012", "shares 1012 1012 12", "base 9999", "order 9999", "pair 9999 9999", "hash " + over + over} {
		if got := Run(line); !strings.ContainsAny(got, "0123456789") {
			t.Errorf("%q is answered %q", line, got)
		}
	}
}

// wrapped is an error that is no number, but wraps one.
type wrapped struct{ inner error }

func (w wrapped) Error() string { return "beside: " + w.inner.Error() }
func (w wrapped) Unwrap() error { return w.inner }

func TestAnErrorThatIsWrappedIsToldByItsName(t *testing.T) {
	for n := api.ErrRange; n <= api.ErrWrong; n++ {
		for _, err := range []error{n, wrapped{n}, wrapped{wrapped{n}}, lineError{n}} {
			e := lineError{err}
			if e.Error() != n.Error() || plain.Told(e) != n || !errors.Is(e, err) {
				t.Errorf("of %v %q is told", err, e.Error())
			}
			c := command{do: func(args) (string, error) { return "told", err }}
			if got := answer(map[string]command{"fly": c}, "fly"); got != n.Error() {
				t.Errorf("a line with %v is answered %q", err, got)
			}
		}
	}
	if got := (lineError{errBad}).Error(); got != "bad" {
		t.Errorf("of errBad %q is told", got)
	}
}

func TestFarOfFar(t *testing.T) {
	for n := 0; n < 10000; n += 1013 {
		same(t, "far", fmt.Sprint("base ", n))
		same(t, "1", fmt.Sprint("order ", n))
		same(t, "1 0", fmt.Sprint("pair 7 ", n), fmt.Sprint("pair ", n, " 7"), fmt.Sprintf("pair %d %d", n, n))
	}
	// Second is 300 times Base: these, and none else, hide what is Far.
	for r := range 1013 {
		same(t, "far", fmt.Sprintf("hide %d %d", (1013-r*300%1013)%1013, r))
	}
	for n := range 10000 {
		if n%1013 != 0 && strings.Contains(Run(fmt.Sprint("base ", n)), "far") {
			t.Errorf("base %d is told as far", n)
		}
	}
	// The spot at 0, 0 is none that is Far.
	same(t, "0 0", "lift 0")
}

func TestHowManyShares(t *testing.T) {
	for n := range 10000 {
		got := Run(fmt.Sprintf("shares 7 1010 %d", n))
		if n < 1 || n > 12 {
			if got != "ErrRange\n" {
				t.Errorf("of %d shares %q is told", n, got)
			}
			continue
		}
		var want []string
		for x := 1; x <= n; x++ {
			want = append(want, fmt.Sprint((7+1010*x)%1013))
		}
		if got != strings.Join(want, " ")+"\n" {
			t.Errorf("of %d shares %q is told, want %q", n, got, want)
		}
	}
}

func TestNoBytes(t *testing.T) {
	check(t, "", "")
}

func TestLinesAreCutAtByte10(t *testing.T) {
	cases := []struct{ text, want string }{
		{"\n", "bad\n"},
		{"\n\n", "bad\nbad\n"},
		{"\n\n\n\n\n", "bad\nbad\nbad\nbad\nbad\n"},
		{"base 1", "1189 3667\n"},
		{"base 1\n", "1189 3667\n"},
		{"base 1\n\n", "1189 3667\nbad\n"},
		{"\nbase 1", "bad\n1189 3667\n"},
		{"\nbase 1\n", "bad\n1189 3667\n"},
		{"base 1\n\nbase 0", "1189 3667\nbad\nfar\n"},
		{"base 1\nbase 0\n", "1189 3667\nfar\n"},
		{"base\n1", "bad\nbad\n"},
		{"base \n1", "bad\nbad\n"},
		{"hash \nhash", "5\nbad\n"},
		{"hash\n\nhash \n", "bad\nbad\n5\n"},
		{"hash hello world\nlift 0", "329\n0 0\n"},
		// No other byte cuts.
		{"base 1\rbase 1", "bad\n"},
		{"base 1\r\nbase 1", "bad\n1189 3667\n"},
		{"base 1\x00base 1", "bad\n"},
		{"base 1\x0bbase 1\x0c", "bad\n"},
		{"base 1\xc2\x85base 1", "bad\n"},
		{"base 1\xe2\x80\xa8base 1", "bad\n"},
		{"base 1;base 1", "bad\n"},
		{"base 1\\nbase 1", "bad\n"},
		{" \n ", "bad\nbad\n"},
	}
	w := newTable()
	for _, c := range cases {
		check(t, c.text, c.want)
		w.check(t, c.text)
	}
}

func TestLinesMayBeLeftAtAnyOfThem(t *testing.T) {
	want := []string{"a", "", "b c", "", "", "d"}
	text := strings.Join(want, "\n")
	for stop := range want {
		var got []string
		for line := range lines(text) {
			if got = append(got, line); len(got) > stop {
				break
			}
		}
		if !slices.Equal(got, want[:stop+1]) {
			t.Errorf("the lines are %q, want %q", got, want[:stop+1])
		}
	}
	// They may be gone over again.
	l := lines(text)
	for range 2 {
		if got := slices.Collect(l); !slices.Equal(got, want) {
			t.Errorf("the lines are %q, want %q", got, want)
		}
	}
}

func TestTooLong(t *testing.T) {
	w := newTable()
	fill := func(n int) []string {
		lines := strings.Repeat("base 1\n", n/7+1)
		return []string{
			"hash " + strings.Repeat("x", n-5),
			"hash " + strings.Repeat("x", n-6) + "\n",
			strings.Repeat("\n", n),
			strings.Repeat(" ", n),
			strings.Repeat("x", n),
			strings.Repeat("\xff", n),
			strings.Repeat("9", n),
			"base " + strings.Repeat("0", n-5),
			lines[:n-7] + strings.Repeat("\n", 7),
			("hash " + strings.Repeat("\xe2\x82\xac", n))[:n],
		}
	}
	for _, n := range []int{2998, 2999, 3000} {
		for k, text := range fill(n) {
			got := Run(text)
			if len(text) != n || got != w.all(text) || strings.Contains(got, "too long") {
				t.Errorf("text %d of %d bytes is answered %q, want %q", k, len(text), got, w.all(text))
			}
		}
	}
	for _, n := range []int{3001, 3002, 3007, 6000, 1 << 16, 1<<16 + 100, 1 << 20} {
		for k, text := range fill(n) {
			if got := Run(text); len(text) != n || got != "too long\n" {
				t.Errorf("text %d of %d bytes is answered %q", k, len(text), got)
			}
		}
	}
	check(t, strings.Repeat("\n", 3000), strings.Repeat("bad\n", 3000))
}

// Z2, at each place where a text of all kinds of lines is cut.
func TestFirstLinesAreAnsweredFirst(t *testing.T) {
	w, p := newTable(), pick(4)
	for range 12 {
		var text string
		for {
			line := p.line(w)
			if len(text)+len(line)+1 > 3000 {
				break
			}
			text += line + "\n"
		}
		all := Run(text)
		answers := strings.SplitAfter(all, "\n")
		first := 0
		for n, line := range strings.Split(strings.TrimSuffix(text, "\n"), "\n") {
			end := first + len(line) + 1
			want := strings.Join(answers[:n+1], "")
			if !strings.HasPrefix(all, want) {
				t.Fatalf("%q is no beginning of %q", want, all)
			}
			check(t, text[:end], want)
			// Without its byte 10 the last one of them is still there, but if it is empty.
			if line != "" {
				check(t, text[:end-1], want)
			} else {
				check(t, text[:end-1], strings.Join(answers[:n], ""))
			}
			// The rest is answered as if nothing had been ahead of it.
			check(t, text[end:], strings.Join(answers[n+1:], ""))
			first = end
		}
		// With one line more than may be it is too long, whatever the first ones are.
		check(t, text+strings.Repeat("\n", 3001-len(text)), "too long\n")
		check(t, text+strings.Repeat("\n", 3000-len(text)), all+strings.Repeat("bad\n", 3000-len(text)))
	}
}

func TestNoTextPanics(t *testing.T) {
	w, p := newTable(), pick(5)
	for range 400 {
		b := make([]byte, p.below(3100))
		for k := range b {
			b[k] = byte(p.below(256))
		}
		w.check(t, string(b))
	}
	// Of the words, blanks and ends alone, in any row.
	pieces := []string{" ", " ", " ", "\n", "\n", "0", "1", "7", "12", "1012", "1013", "01", "10000", "-", "x", "pay 5", "\xff", "\x00"}
	for _, f := range w.forms {
		word, _, _ := strings.Cut(f.line, " ")
		pieces = append(pieces, word, word+" ", word+" 7", f.ordinary())
	}
	for range 2000 {
		text := ""
		for range p.below(60) {
			text += p.of(pieces)
		}
		w.check(t, text)
	}
}

func TestEachTextOfAFewBytes(t *testing.T) {
	w := newTable()
	w.check(t, "")
	bytes := "\n 0a\xff"
	row := []string{""}
	for range 4 {
		var next []string
		for _, text := range row {
			for k := range len(bytes) {
				next = append(next, text+bytes[k:k+1])
			}
		}
		row = next
		for _, text := range row {
			w.check(t, text)
			w.check(t, "hash"+text)
			w.check(t, "base 1"+text)
			w.check(t, "base"+text+"1")
		}
	}
}

// P2: what was called between, of this or of another layer, tells nothing in the answer.
func TestTheSameTextIsAnsweredTheSame(t *testing.T) {
	w, p := newTable(), pick(6)
	var texts, told []string
	for range 60 {
		var l []string
		for range 1 + p.below(12) {
			l = append(l, p.line(w))
		}
		texts = append(texts, strings.Join(l, "\n"))
		told = append(told, Run(texts[len(texts)-1]))
	}
	texts = append(texts, "", "\n", strings.Repeat("x", 3001))
	told = append(told, "", "bad\n", "too long\n")
	for range 400 {
		k := p.below(len(texts))
		check(t, texts[k], told[k])
		switch p.below(4) {
		case 0:
			_, _ = seal.Sign(p.below(1100), p.below(1100), "pay 5")
		case 1:
			_, _ = share.Split([]int{p.below(1100), p.below(1100)}, p.below(14))
		case 2:
			_, _ = hide.Hide(p.below(1100), p.below(1100))
		}
	}
}

func TestCallsAtOneTime(t *testing.T) {
	w, p := newTable(), pick(7)
	var texts, want []string
	for range 16 {
		texts = append(texts, p.line(w)+"\n"+p.line(w)+"\n"+p.line(w))
		want = append(want, w.all(texts[len(texts)-1]))
	}
	told := make(chan string)
	for k := range texts {
		go func() {
			wrong := ""
			for range 20 {
				if got := Run(texts[k]); got != want[k] {
					wrong = fmt.Sprintf("Run(%q) is %q, want %q", texts[k], got, want[k])
				}
			}
			told <- wrong
		}()
	}
	for range texts {
		if wrong := <-told; wrong != "" {
			t.Error(wrong)
		}
	}
}
