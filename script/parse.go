package script

import (
	"iter"
	"strings"

	"gannet/api"
	"gannet/cart"
	"gannet/octet"
)

// Parse reads a script.
func Parse(text string) (api.Script, api.Fault) {
	if len(text) > most {
		return api.Script{}, api.Fault{Errno: api.ErrLong}
	}
	t := told{numbers: make(map[string]int64)}
	for r := range split(text) {
		if e := t.take(r); e != api.OK {
			return api.Script{}, api.Fault{Errno: e, At: r.at}
		}
	}
	s, e := t.script()
	return s, api.Fault{Errno: e}
}

// row is a line of a text: its number, what it says, and whether there is a byte 10 behind it.
type row struct {
	at    int
	says  string
	ended bool
}

// split gives a text's lines, one behind the other. Behind a last byte 10 there is none.
func split(text string) iter.Seq[row] {
	return func(yield func(row) bool) {
		rest := text
		for at := 1; rest != ""; at++ {
			says, behind, ended := strings.Cut(rest, "\n")
			if !yield(row{at: at, says: says, ended: ended}) {
				return
			}
			rest = behind
		}
	}
}

// told is what lines told.
type told struct {
	// numbers is those that are told once, by the words with which their lines begin.
	numbers map[string]int64
	pieces  []api.Piece
	feeds   api.Feeds
	edges   []api.Edge
}

// take takes what a line tells.
func (t *told) take(r row) api.Errno {
	if !r.ended {
		return api.ErrForm
	}
	words := Line(r.says)
	if len(words) == 0 {
		return api.OK
	}
	first, rest := words[0], words[1:]
	switch first {
	case wordPages, wordBudget:
		return t.number(first, rest)
	case wordRom:
		return t.piece(rest)
	case wordVdc:
		return more(&t.feeds.Vdc, rest)
	case wordVce:
		return more(&t.feeds.Vce, rest)
	case wordPort:
		return more(&t.feeds.Port, rest)
	case wordUp, wordDown:
		return t.edge(first == wordUp, rest)
	}
	return api.ErrName
}

// number takes a number that is told once.
func (t *told) number(word string, rest []string) api.Errno {
	if len(rest) != 1 {
		return api.ErrForm
	}
	n, e := Number(rest[0])
	if e != api.OK {
		return api.ErrForm
	}
	if word == wordPages && (n < 1 || n > api.MaxPages) {
		return api.ErrPages
	}
	if _, ok := t.numbers[word]; ok {
		return api.ErrTwice
	}
	t.numbers[word] = n
	return api.OK
}

// piece takes bytes of the image. Whether they lie within it is known only when all lines are read.
func (t *told) piece(rest []string) api.Errno {
	if len(rest) == 0 {
		return api.ErrForm
	}
	at, ok := hex(rest[0], placeDigits)
	if !ok {
		return api.ErrForm
	}
	p := api.Piece{At: int(at)}
	if e := more(&p.Bytes, rest[1:]); e != api.OK {
		return e
	}
	t.pieces = append(t.pieces, p)
	return api.OK
}

// edge takes a change of a line.
func (t *told) edge(up bool, rest []string) api.Errno {
	if len(rest) != 2 {
		return api.ErrForm
	}
	stamp, e := Number(rest[0])
	if e != api.OK {
		return api.ErrForm
	}
	for n, name := range names {
		if name == rest[1] {
			t.edges = append(t.edges, api.Edge{Stamp: stamp, Line: uint8(n), Up: up})
			return api.OK
		}
	}
	return api.ErrLine
}

// more reads bytes, one at least, and puts them behind a list.
func more(l *[]byte, words []string) api.Errno {
	if len(words) == 0 {
		return api.ErrForm
	}
	for _, word := range words {
		v, ok := hex(word, byteDigits)
		if !ok {
			return api.ErrForm
		}
		*l = append(*l, byte(v))
	}
	return api.OK
}

// hex reads a number of so many digits of layer 1.
func hex(word string, digits int) (uint32, bool) {
	n, e := octet.FromHex(word)
	return n, e == api.OK && len(word) == digits
}

// script is what was told, put together.
func (t *told) script() (api.Script, api.Errno) {
	pages, ok := t.numbers[wordPages]
	budget, also := t.numbers[wordBudget]
	if !ok || !also {
		return api.Script{}, api.ErrNone
	}
	rom, f := cart.Make(int(pages), t.pieces)
	if f != (api.Fault{}) {
		return api.Script{}, f.Errno
	}
	s := api.Script{Rom: rom, Feeds: t.feeds, Edges: t.edges, Budget: budget}
	if f := Check(s); f != (api.Fault{}) {
		return api.Script{}, f.Errno
	}
	return s, api.OK
}
