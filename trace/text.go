package trace

import (
	"strconv"
	"strings"

	"gannet/api"
	"gannet/octet"
	"gannet/phys"
	"gannet/script"
	"gannet/timing"
)

// How a line tells whether an access reads, or writes.
const (
	reads  = "r"
	writes = "w"
)

// Line writes an access.
func Line(a api.Access) string {
	if !may(a) {
		return ""
	}
	way := reads
	if a.Write {
		way = writes
	}
	return words(strconv.FormatInt(a.Stamp, 10), letter(a.Kind), phys.Text(a.Addr), way, octet.Hex(uint32(a.Data), 2))
}

// words is a line's words, put together.
func words(l ...string) string { return strings.Join(l, " ") }

// letter is that of a kind.
func letter(kind uint8) string { return timing.Text([]uint8{kind}) }

// Read reads an access.
func Read(line string) (api.Access, api.Errno) {
	l := strings.Split(line, " ")
	if len(l) != 5 {
		return api.Access{}, api.ErrForm
	}
	stamp, _ := script.Number(l[0])
	addr, _ := phys.Of(l[2])
	data, _ := octet.FromHex(l[4])
	a := api.Access{Stamp: stamp, Addr: addr, Kind: kind(l[1]), Write: l[3] == writes, Data: byte(data)}
	// Whatever is wrong with a word, the access that is read of it is written otherwise.
	if Line(a) != line {
		return api.Access{}, api.ErrForm
	}
	return a, api.OK
}

// kind is that of a letter; one that has no line, if there is none.
func kind(text string) uint8 {
	for kind := range uint8(kinds) {
		if letter(kind) == text {
			return kind
		}
	}
	return kinds
}
