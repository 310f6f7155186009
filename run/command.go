package run

import (
	"strconv"
	"strings"

	"pairstone/api"
	"pairstone/curve"
	"pairstone/hash"
	"pairstone/hide"
	"pairstone/pair"
	"pairstone/seal"
	"pairstone/share"
	"pairstone/short"
	"pairstone/times"
)

// blank is between words, and between the numbers of an answer.
const blank = " "

// greatest number of at most four digits.
const greatest = 9999

// command is what a word does, and what is behind it in its line: so many numbers, and then a text, if it takes one.
type command struct {
	numbers int
	text    bool
	do      func(a args) (string, error)
}

// args are what was read of a line.
type args struct {
	n    []int
	text string
}

// commands by their words. Base is the same for all of a text's lines, and found but once.
func commands() map[string]command {
	base := times.Base()
	return map[string]command{
		"base": {numbers: 1, do: func(a args) (string, error) {
			return spotTold(times.Times(base, a.n[0]))
		}},
		"lift": {numbers: 1, do: func(a args) (string, error) {
			return spotTold(curve.Lift(a.n[0]))
		}},
		"order": {numbers: 1, do: func(a args) (string, error) {
			return orderTold(base, a.n[0])
		}},
		"hash": {text: true, do: func(a args) (string, error) {
			return row(hash.Number(a.text)), nil
		}},
		"pair": {numbers: 2, do: func(a args) (string, error) {
			return pairTold(base, a.n[0], a.n[1])
		}},
		"sign": {numbers: 2, text: true, do: func(a args) (string, error) {
			return sealTold(seal.Sign(a.n[0], a.n[1], a.text))
		}},
		"short": {numbers: 1, text: true, do: func(a args) (string, error) {
			return spotTold(short.Sign(a.n[0], a.text))
		}},
		"hide": {numbers: 2, do: func(a args) (string, error) {
			return spotTold(hide.Hide(a.n[0], a.n[1]))
		}},
		"shares": {numbers: 3, do: func(a args) (string, error) {
			return sharesTold(share.Split(a.n[:2], a.n[2]))
		}},
	}
}

// read a line whose first word is the command's.
func (c command) read(line string) (args, error) {
	many := 1 + c.numbers
	if c.text {
		many++
	}
	// All that is behind the blank ahead of the last word is that word: of a text with its blanks; no number has one, so that a line of more words is told by it.
	words := strings.SplitN(line, blank, many)
	if len(words) < many {
		return args{}, errBad
	}
	var a args
	for _, word := range words[1 : 1+c.numbers] {
		n, err := number(word)
		if err != nil {
			return args{}, err
		}
		a.n = append(a.n, n)
	}
	if c.text {
		a.text = words[many-1]
	}
	return a, nil
}

func number(word string) (int, error) {
	n, err := strconv.Atoi(word)
	// With a sign or a needless 0 it would be written otherwise.
	if err != nil || n < 0 || n > greatest || strconv.Itoa(n) != word {
		return 0, errBad
	}
	return n, nil
}

func row(numbers ...int) string {
	words := make([]string, 0, len(numbers))
	for _, n := range numbers {
		words = append(words, strconv.Itoa(n))
	}
	return strings.Join(words, blank)
}

func spot(s api.Spot) string {
	if s.Far {
		return "far"
	}
	return row(s.X, s.Y)
}

func spotTold(s api.Spot, err error) (string, error) {
	if err != nil {
		return "", err
	}
	return spot(s), nil
}

func orderTold(base api.Spot, n int) (string, error) {
	s, err := times.Times(base, n)
	if err != nil {
		return "", err
	}
	order, err := times.Order(s)
	if err != nil {
		return "", err
	}
	return row(order), nil
}

func pairTold(base api.Spot, n, m int) (string, error) {
	a, err := times.Times(base, n)
	if err != nil {
		return "", err
	}
	b, err := times.Times(base, m)
	if err != nil {
		return "", err
	}
	t, err := pair.Pair(a, b)
	if err != nil {
		return "", err
	}
	return row(t.A, t.B), nil
}

func sealTold(s api.Seal, err error) (string, error) {
	if err != nil {
		return "", err
	}
	return spot(s.R) + blank + row(s.S), nil
}

func sharesTold(l []api.Share, err error) (string, error) {
	if err != nil {
		return "", err
	}
	ys := make([]int, 0, len(l))
	for _, s := range l {
		ys = append(ys, s.Y)
	}
	return row(ys...), nil
}
