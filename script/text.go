package script

import (
	"iter"
	"slices"
	"strconv"
	"strings"

	"gannet/api"
	"gannet/cart"
	"gannet/octet"
)

const (
	// most is how many bytes a text has at most.
	most = 200000
	// wide is how many bytes of an image, or of a feed, stand in a line that is written.
	wide = 16
	// placeDigits and byteDigits are how many digits a place of an image, and a byte, have.
	placeDigits = 6
	byteDigits  = 2
)

// The words with which lines begin.
const (
	wordPages  = "pages"
	wordRom    = "rom"
	wordVdc    = "vdc"
	wordVce    = "vce"
	wordPort   = "port"
	wordUp     = "up"
	wordDown   = "down"
	wordBudget = "budget"
)

// names is the lines' names, by their numbers.
var names = [...]string{api.LineReset: "reset", api.LineNmi: "nmi", api.LineIrq1: "irq1", api.LineIrq2: "irq2"}

// Text writes a script.
func Text(s api.Script) (string, api.Fault) {
	if f := Check(s); f != (api.Fault{}) {
		return "", f
	}
	text := strings.Join(slices.Concat(
		[]string{line(wordPages, decimal(int64(len(s.Rom)/api.PageSize)))},
		image(s.Rom),
		fed(wordVdc, s.Feeds.Vdc),
		fed(wordVce, s.Feeds.Vce),
		fed(wordPort, s.Feeds.Port),
		changes(s.Edges),
		[]string{line(wordBudget, decimal(s.Budget))},
	), "")
	if len(text) > most {
		return "", api.Fault{Errno: api.ErrLong}
	}
	return text, api.Fault{}
}

// line is a line of words.
func line(words ...string) string { return strings.Join(words, string(blank)) + "\n" }

// decimal writes a number.
func decimal(n int64) string { return strconv.FormatInt(n, 10) }

// image is the lines of all of an image that isn't 0.
func image(rom []byte) []string {
	var l []string
	pieces, _ := cart.Pieces(rom)
	for _, p := range pieces {
		for from, part := range rows(p.Bytes) {
			l = append(l, line(wordRom, octet.Hex(uint32(p.At+from), placeDigits), digits(part)))
		}
	}
	return l
}

// fed is the lines of a feed.
func fed(word string, b []byte) []string {
	var l []string
	for _, part := range rows(b) {
		l = append(l, line(word, digits(part)))
	}
	return l
}

// changes is the lines of edges. There is a name of each one's line, as they were checked.
func changes(edges []api.Edge) []string {
	var l []string
	for _, e := range edges {
		word := wordDown
		if e.Up {
			word = wordUp
		}
		l = append(l, line(word, decimal(e.Stamp), names[e.Line]))
	}
	return l
}

// rows gives bytes in rows, each with the place at which it begins.
func rows(b []byte) iter.Seq2[int, []byte] {
	return func(yield func(int, []byte) bool) {
		for from := 0; from < len(b); from += wide {
			if !yield(from, b[from:min(from+wide, len(b))]) {
				return
			}
		}
	}
}

// digits writes bytes.
func digits(b []byte) string {
	var words []string
	for _, v := range b {
		words = append(words, octet.Hex(uint32(v), byteDigits))
	}
	return strings.Join(words, string(blank))
}
