package script_test

import (
	"bytes"
	"fmt"
	"strconv"
	"strings"
	"testing"

	"gannet/api"
	"gannet/script"
)

// lines is a text: lines, each with a byte 10 behind.
func lines(l ...string) string {
	if len(l) == 0 {
		return ""
	}
	return strings.Join(l, "\n") + "\n"
}

// P33.3: what each kind of line tells.
func TestParse(t *testing.T) {
	one := laid(1)
	for _, c := range []struct {
		name, text string
		want       api.Script
	}{
		{"the least", lines("pages 1", "budget 0"), api.Script{Rom: one}},
		{"the other way round", lines("budget 7", "pages 1"), api.Script{Rom: one, Budget: 7}},
		{"the example", lines("pages 1", "rom 001FFE 00 E0", "budget 100"), api.Script{Rom: laid(1, api.Piece{At: 0x1FFE, Bytes: []byte{0, 0xE0}}), Budget: 100}},
		{"the most", lines("pages 128", "rom 0FFFFF AB", "budget 1099511627776"), api.Script{Rom: laid(128, api.Piece{At: 0xFFFFF, Bytes: []byte{0xAB}}), Budget: 1 << 40}},
		{"lines that are passed over", lines("# all of it", "", "   ", "pages 1", "#budget 5", "  # no", "budget 3", "##", " "), api.Script{Rom: one, Budget: 3}},
		{"blanks", lines("  pages   1 ", " rom  000003   07  08  ", "budget 3   "), api.Script{Rom: laid(1, api.Piece{At: 3, Bytes: []byte{7, 8}}), Budget: 3}},
		{"an image ahead of its pages", lines("rom 002000 05", "pages 2", "budget 3"), api.Script{Rom: laid(2, api.Piece{At: 0x2000, Bytes: []byte{5}}), Budget: 3}},
		{"feeds", lines("pages 1", "vdc 01", "port 02 03", "vce 04", "vdc 05 06", "budget 3", "port 07"),
			api.Script{Rom: one, Feeds: api.Feeds{Vdc: []byte{1, 5, 6}, Vce: []byte{4}, Port: []byte{2, 3, 7}}, Budget: 3}},
		{"edges", lines("up 0 reset", "down 0 nmi", "pages 1", "up 5 irq1", "budget 3", "down 26388279066624 irq2"),
			api.Script{Rom: one, Edges: []api.Edge{{Stamp: 0, Line: 0, Up: true}, {Stamp: 0, Line: 1}, {Stamp: 5, Line: 2, Up: true}, {Stamp: latest, Line: 3}}, Budget: 3}},
		{"laid over one another", lines("pages 1", "rom 000000 01 02 03", "rom 000001 08 09 0A", "rom 000002 FF", "budget 0"),
			api.Script{Rom: laid(1, api.Piece{At: 0, Bytes: []byte{1, 8, 0xFF, 0xA}})}},
		{"0 laid over others", lines("pages 1", "rom 000000 01 02 03", "rom 000001 00", "budget 0"), api.Script{Rom: laid(1, api.Piece{At: 0, Bytes: []byte{1, 0, 3}})}},
		{"up to the end", lines("pages 1", "rom 001FFE 01 02", "budget 0"), api.Script{Rom: laid(1, api.Piece{At: 8190, Bytes: []byte{1, 2}})}},
		{"more than a row", lines("pages 1", "rom 000000 "+strings.Repeat("11 ", 8191)+"22", "budget 0"),
			api.Script{Rom: append(bytes.Repeat([]byte{0x11}, 8191), 0x22)}},
	} {
		if got, f := script.Parse(c.text); !alike(got, c.want) || f != (api.Fault{}) {
			t.Errorf("%s: %v", c.name, f)
		}
	}
}

// faulty holds that a text has a fault, and that its script is zero.
func faulty(t *testing.T, text string, e api.Errno, at int) {
	t.Helper()
	if s, f := script.Parse(text); f != (api.Fault{Errno: e, At: at}) || !zero(s) {
		t.Errorf("%.80q: %v, %v, not %d at %d", text, f, zero(s), e, at)
	}
}

// P33.3: lines of too few words, too many, or others; each ahead of the last line, and as a fourth one.
func TestParseWrong(t *testing.T) {
	for line, e := range map[string]api.Errno{
		// No such first word.
		"page 1": api.ErrName, "Pages 1": api.ErrName, "PAGES 1": api.ErrName, "pages1": api.ErrName, "1": api.ErrName, "pages\t1": api.ErrName, "budget\r": api.ErrName, "x": api.ErrName,
		"vd 00": api.ErrName, "reset": api.ErrName, "asm": api.ErrName, "on": api.ErrName, "rom# 0": api.ErrName, "\x00": api.ErrName, "ups 5 irq1": api.ErrName, "pages#": api.ErrName, "\tpages 1": api.ErrName,
		// pages, and what isn't a number behind it.
		"pages": api.ErrForm, "pages 1 1": api.ErrForm, "pages a": api.ErrForm, "pages 01": api.ErrForm, "pages -1": api.ErrForm, "pages 1\r": api.ErrForm, "pages +1": api.ErrForm, "pages 0x1": api.ErrForm,
		"pages 1234567890123456789": api.ErrForm, "pages 1 # one": api.ErrForm, "pages 00": api.ErrForm, "pages 200 1": api.ErrForm,
		"pages 0": api.ErrPages, "pages 129": api.ErrPages, "pages 999999999999999999": api.ErrPages,
		// rom.
		"rom": api.ErrForm, "rom 000000": api.ErrForm, "rom 00000 01": api.ErrForm, "rom 0000000 01": api.ErrForm, "rom 00000g 01": api.ErrForm, "rom 00000a 01": api.ErrForm, "rom 000000 1": api.ErrForm,
		"rom 000000 001": api.ErrForm, "rom 000000 0x": api.ErrForm, "rom 000000 01 0a": api.ErrForm, "rom 000000 01 02 3": api.ErrForm, "rom 0000 00 01": api.ErrForm, "rom 00:0000 01": api.ErrForm, "rom 000000 01 #": api.ErrForm,
		"rom 000000 01 reset": api.ErrForm, "rom -00001 01": api.ErrForm, "rom 000000000 01": api.ErrForm, "rom 000000 000000000": api.ErrForm, "rom é00 01": api.ErrForm,
		// Feeds.
		"vdc": api.ErrForm, "vce": api.ErrForm, "port": api.ErrForm, "vdc 1": api.ErrForm, "vce 001": api.ErrForm, "port 0G": api.ErrForm, "vdc 00 ff": api.ErrForm, "port 00 -1": api.ErrForm, "vce 00 é": api.ErrForm,
		// Edges.
		"up": api.ErrForm, "up 5": api.ErrForm, "up 5 irq1 irq2": api.ErrForm, "up irq1 5": api.ErrForm, "up 05 irq1": api.ErrForm, "up -5 irq1": api.ErrForm, "down": api.ErrForm, "down 5": api.ErrForm, "down x y": api.ErrForm,
		"up 1234567890123456789 irq1": api.ErrForm, "up x irq3": api.ErrForm, "down 5 5 nmi": api.ErrForm, "up 5 irq3 x": api.ErrForm,
		"up 5 irq3": api.ErrLine, "up 5 Reset": api.ErrLine, "down 5 timer": api.ErrLine, "down 5 irq": api.ErrLine, "up 5 0": api.ErrLine, "up 5 irq1\r": api.ErrLine, "up 999999999999999999 brk": api.ErrLine,
		// budget.
		"budget": api.ErrForm, "budget 1 2": api.ErrForm, "budget x": api.ErrForm, "budget 00": api.ErrForm, "budget -1": api.ErrForm, "budget 1234567890123456789": api.ErrForm, "budget 1.5": api.ErrForm,
	} {
		faulty(t, lines(line, "pages 1", "budget 5"), e, 1)
		faulty(t, lines("# here", "", "vdc 00", line, "pages 1", "budget 5"), e, 4)
		// Nothing is wrong ahead of the line that has no byte 10 behind it.
		faulty(t, lines("pages 1", "budget 5")+line, api.ErrForm, 3)
	}
}

// P33.3: each line has a byte 10 behind, such as are passed over, too.
func TestParseEnd(t *testing.T) {
	for _, last := range []string{"budget 5", "pages 1", " ", "#", "# some", "vdc 00", "nonsense", "\r", "budget 5\r"} {
		faulty(t, last, api.ErrForm, 1)
		faulty(t, lines("", "# x")+last, api.ErrForm, 3)
		faulty(t, lines("pages 1", "budget 5")+last, api.ErrForm, 3)
	}
	// Nothing is behind the last byte 10.
	if _, f := script.Parse("pages 1\nbudget 5\n"); f != (api.Fault{}) {
		t.Errorf("%v", f)
	}
	if _, f := script.Parse("pages 1\nbudget 5\n\n\n"); f != (api.Fault{}) {
		t.Errorf("%v", f)
	}
}

// P33.3: pages, and budget, are told once; what is wrong otherwise is named ahead of that.
func TestParseTwice(t *testing.T) {
	faulty(t, lines("pages 1", "pages 1", "budget 5"), api.ErrTwice, 2)
	faulty(t, lines("pages 1", "budget 5", "vdc 00", "pages 2"), api.ErrTwice, 4)
	faulty(t, lines("pages 1", "budget 5", "budget 5"), api.ErrTwice, 3)
	faulty(t, lines("budget 0", "budget 0", "pages 1"), api.ErrTwice, 2)
	faulty(t, lines("budget 5", "budget 99999999999999", "pages 1"), api.ErrTwice, 2)
	faulty(t, lines("budget 5", "budget 6"), api.ErrTwice, 2)
	faulty(t, lines("pages 1", "pages 0", "budget 5"), api.ErrPages, 2)
	faulty(t, lines("pages 1", "pages", "budget 5"), api.ErrForm, 2)
	faulty(t, lines("pages 1", "pages x", "budget 5"), api.ErrForm, 2)
	faulty(t, lines("budget 1", "budget 01", "pages 5"), api.ErrForm, 2)
	faulty(t, lines("pages 1", "budget 5")+"pages 1", api.ErrForm, 3)
}

// P33.3: what isn't told at all.
func TestParseNone(t *testing.T) {
	for _, text := range []string{
		"", "\n", lines("# nothing", " "), lines("pages 1"), lines("budget 5"), lines("vdc 00", "up 5 irq1"), lines("# pages 1", "budget 5"), lines("pages 1", "#budget 5"),
		// What doesn't lie within, and what Check has, come behind that.
		lines("rom FFFFFF 01", "budget 5"), lines("rom FFFFFF 01", "pages 1"), lines("pages 1", "up 5 irq1", "up 4 irq1"), lines("budget 9999999999999999"),
	} {
		faulty(t, text, api.ErrNone, 0)
	}
}

// P33.3: bytes of an image that don't lie within it, of whichever line.
func TestParseRange(t *testing.T) {
	for pages, l := range map[int][]string{
		1:   {"rom 002000 01", "rom 001FFF 01 02", "rom FFFFFF 00", "rom 000000" + strings.Repeat(" 00", 8193), "rom 003FFF 01", "rom 100000 00"},
		2:   {"rom 004000 00", "rom 003FFF 00 00"},
		128: {"rom 100000 01", "rom 0FFFFF 01 02", "rom 200000 01", "rom FFFFFF 01"},
	} {
		for _, line := range l {
			told := "pages " + strconv.Itoa(pages)
			faulty(t, lines(told, line, "budget 5"), api.ErrRange, 0)
			faulty(t, lines(line, told, "budget 5"), api.ErrRange, 0)
			faulty(t, lines(told, "rom 000000 01", line, "rom 000005 01", "budget 5"), api.ErrRange, 0)
			// Check's errors come behind that; lines that are wrong ahead of it.
			faulty(t, lines(told, line, "budget 9999999999999999", "up 5 irq1", "up 4 irq1"), api.ErrRange, 0)
			faulty(t, lines(told, line, "budget 5", "vdc 1"), api.ErrForm, 4)
		}
	}
}

// P33.3: what Check refuses, at 0.
func TestParseCheck(t *testing.T) {
	row := "vdc" + strings.Repeat(" 01", 5000)
	many := strings.Repeat("up 5 irq1\n", 1000)
	head := lines("pages 1", "budget 5")
	for _, c := range []struct {
		text string
		want api.Errno
	}{
		{head + lines(row, row), api.OK},
		{head + lines(row, row, "vdc 01"), api.ErrLong},
		{head + lines(strings.ReplaceAll(lines(row, row), "vdc", "vce")+"vce 01"), api.ErrLong},
		{head + lines(strings.ReplaceAll(lines(row, row), "vdc", "port")+"port 01"), api.ErrLong},
		{head + many, api.OK},
		{head + many + "up 5 irq1\n", api.ErrLong},
		{head + lines("up 5 irq1", "down 4 irq1"), api.ErrEdge},
		{head + lines("up 5 irq1", "down 5 irq1", "up 26388279066625 nmi"), api.ErrEdge},
		{head + lines("up 5 irq1", "down 999999999999999999 irq1"), api.ErrEdge},
		{lines("pages 1", "budget 1099511627777"), api.ErrBudget},
		{lines("pages 1", "budget 999999999999999999"), api.ErrBudget},
		// Several of them.
		{lines("pages 1", "budget 999999999999999999", "up 5 irq1", "up 4 irq1"), api.ErrEdge},
		{lines("pages 1", "budget 999999999999999999", "up 5 irq1", "up 4 irq1", row, row, row), api.ErrLong},
	} {
		if c.want == api.OK {
			if s, f := script.Parse(c.text); f != (api.Fault{}) || len(s.Feeds.Vdc)+10*len(s.Edges) != 10000 {
				t.Errorf("%.40q: %v", c.text, f)
			}
			continue
		}
		faulty(t, c.text, c.want, 0)
	}
}

// P33.3: 200000 bytes are read; of more no line is looked at.
func TestParseLong(t *testing.T) {
	head := lines("pages 1", "budget 5")
	fill := func(n int) string { return head + strings.Repeat("\n", n-len(head)) }
	for _, n := range []int{199999, 200000} {
		if s, f := script.Parse(fill(n)); f != (api.Fault{}) || s.Budget != 5 {
			t.Errorf("%d bytes: %v", n, f)
		}
	}
	faulty(t, fill(200001), api.ErrLong, 0)
	faulty(t, fill(1000000), api.ErrLong, 0)
	faulty(t, strings.Repeat("x", 200001), api.ErrLong, 0)
	faulty(t, "x"+fill(200000), api.ErrLong, 0)
	faulty(t, strings.Repeat("x", 200000), api.ErrForm, 1)
	faulty(t, strings.Repeat("\n", 200000), api.ErrNone, 0)
	faulty(t, strings.Repeat("\n", 199999)+"x", api.ErrForm, 200000)
}

// P33.3: it is the first line that is wrong whose fault is told.
func TestParseFirst(t *testing.T) {
	wrong := []struct {
		line string
		e    api.Errno
	}{{"x", api.ErrName}, {"rom", api.ErrForm}, {"pages 0", api.ErrPages}, {"up 5 x", api.ErrLine}, {"budget 5", api.ErrTwice}}
	for _, a := range wrong {
		for _, b := range wrong {
			faulty(t, lines("pages 1", "budget 5", a.line, b.line), a.e, 3)
			faulty(t, lines("pages 1", "budget 5", a.line)+b.line, a.e, 3)
		}
	}
}

// P1, P2: texts of any kind: none panics, and a fault's script is zero.
func TestParseAny(t *testing.T) {
	x := chance(11)
	words := []string{"pages", "rom", "vdc", "vce", "port", "up", "down", "budget", "#", "1", "5", "00", "FF", "001FFE", "irq1", "reset", "x", "", "\n", "\n", "\n", "\x00", "\xff", " ", "é"}
	for range 20000 {
		var text strings.Builder
		for range x.next(30) {
			text.WriteString(words[x.next(len(words))])
			if x.next(4) > 0 {
				text.WriteByte(' ')
			}
		}
		s, f := script.Parse(text.String())
		if f.Errno != api.OK && !zero(s) || f.Errno == api.OK && (f.At != 0 || script.Check(s) != api.Fault{}) {
			t.Fatalf("%q: %v", text.String(), f)
		}
		script.Line(text.String())
		script.Number(text.String())
	}
}

// P3: what is read is the caller's, list by list.
func TestParseApart(t *testing.T) {
	text := lines("pages 1", "budget 5", "rom 000000 01 02", "vdc 01", "vce 02", "port 03", "up 1 nmi", "down 2 nmi")
	want, _ := script.Parse(text)
	was := fmt.Sprint(want)
	got, _ := script.Parse(text)
	clear(got.Rom)
	clear(got.Feeds.Vdc)
	clear(append(got.Feeds.Vce, 9, 9, 9))
	clear(got.Edges)
	if fmt.Sprint(want) != was || len(got.Feeds.Port) != 1 || got.Feeds.Port[0] != 3 {
		t.Error("they share something")
	}
	if again, f := script.Parse(text); !alike(again, want) || f != (api.Fault{}) {
		t.Errorf("%v", f)
	}
}
