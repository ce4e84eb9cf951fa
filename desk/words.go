package desk

import (
	"slices"
	"strconv"
	"strings"

	"gimbal/api"
	"gimbal/item"
)

const maxDigits = 10

// form is how an operation is written: its word, and what follows it.
type form struct {
	word, parts string
}

// The parts of the words of an operation.
const (
	partSku   = 's'
	partOrder = 'o'
	partN     = 'n'
	partLines = 'l'
)

// forms holds the form of each kind.
var forms = [api.LastOp + 1]form{
	api.OpRestock: {"restock", "sn"},
	api.OpAdjust:  {"adjust", "sn"},
	api.OpReserve: {"reserve", "onl"},
	api.OpConfirm: {"confirm", "o"},
	api.OpCancel:  {"cancel", "o"},
	api.OpShip:    {"ship", "o"},
	api.OpExpire:  {"expire", "n"},
	api.OpSku:     {"sku", "s"},
	api.OpOrder:   {"order", "o"},
}

// split returns the words of a line.
func split(line string) []string {
	return strings.FieldsFunc(line, func(c rune) bool { return c == ' ' })
}

// number returns the number that a word is, if it is one.
func number(word string) (n int, is bool) {
	digits := strings.TrimPrefix(word, "-")
	n, e := strconv.Atoi(word)
	if e != nil || len(digits) > maxDigits || strconv.Itoa(n) != word {
		return 0, false
	}
	return n, true
}

// numbers returns the numbers that words are, if all of them are some.
func numbers(words []string) (l []int, are bool) {
	for _, w := range words {
		n, is := number(w)
		if !is {
			return nil, false
		}
		l = append(l, n)
	}
	return l, true
}

// Say returns the words of an operation.
func Say(o api.Op) (string, api.Errno) {
	if e := item.Check(o); e != api.OK {
		return "", e
	}
	f := forms[o.Kind]
	words := []string{f.word}
	for _, part := range f.parts {
		switch part {
		case partSku:
			words = append(words, o.Sku)
		case partOrder:
			words = append(words, strconv.Itoa(o.Order))
		case partN:
			words = append(words, strconv.Itoa(o.N))
		case partLines:
			for _, l := range o.Lines {
				words = append(words, l.Sku, strconv.Itoa(l.N))
			}
		}
	}
	return strings.Join(words, " "), api.OK
}

// Read returns the operation that words are.
func Read(words string) (api.Op, api.Errno) {
	o, is := readOp(split(words))
	if !is {
		return api.Op{}, api.ErrForm
	}
	if e := item.Check(o); e != api.OK {
		return api.Op{}, e
	}
	return o, api.OK
}

// kindOf returns the kind of the operations that begin with a word; 0 if there are none.
func kindOf(word string) int {
	for kind, f := range forms {
		if f.word == word {
			return kind
		}
	}
	return 0
}

// readOp returns the operation that words are; it may be one that is not valid.
func readOp(words []string) (o api.Op, is bool) {
	if len(words) == 0 {
		return api.Op{}, false
	}
	o.Kind = kindOf(words[0])
	if o.Kind == 0 {
		return api.Op{}, false
	}
	rest := words[1:]
	for _, part := range forms[o.Kind].parts {
		if rest, is = readPart(&o, part, rest); !is {
			return api.Op{}, false
		}
	}
	if len(rest) > 0 {
		return api.Op{}, false
	}
	return o, true
}

// readPart reads a part of an operation, and returns the words that follow it.
func readPart(o *api.Op, part rune, words []string) (rest []string, is bool) {
	if len(words) == 0 {
		return nil, false
	}
	switch part {
	case partSku:
		o.Sku, is = words[0], true
	case partOrder:
		o.Order, is = number(words[0])
	case partN:
		o.N, is = number(words[0])
	case partLines:
		o.Lines, is = readLines(words)
		return nil, is
	}
	return words[1:], is
}

func readLines(words []string) (l []api.Line, are bool) {
	if len(words)%2 != 0 || len(words) > 2*api.MaxLines {
		return nil, false
	}
	for pair := range slices.Chunk(words, 2) {
		n, is := number(pair[1])
		if !is {
			return nil, false
		}
		l = append(l, api.Line{Sku: pair[0], N: n})
	}
	return l, true
}
