package wire_test

import (
	"slices"
	"strings"
	"testing"

	"isobar/api"
	"isobar/wire"
)

// TestCouldExamples is for P2.2.
func TestCouldExamples(t *testing.T) {
	narrow := code()
	narrow.Fields[0] = span(75400, 78000)
	for i, x := range []struct {
		c     api.WireCode
		list  [][]string
		want  [][]int
		known string
	}{
		{code(), copies(copyA), [][]int{{75310, 27030}, {75810, 27030}}, "75?10 27030"},
		{code(), copies(copyB), [][]int{{75810, 27030}}, "75810 27030"},
		{code(), copies(copyA, copyB), [][]int{{75810, 27030}}, "75810 27030"},
		{code(), copies(copyB, copyA, copyA), [][]int{{75810, 27030}}, "75810 27030"},
		{code(), copies(copyA, copyA, copyA), [][]int{{75310, 27030}, {75810, 27030}}, "75?10 27030"},
		{narrow, copies(copyA), [][]int{{75810, 27030}}, "75810 27030"},
		{plain(1), copies("1?345 1?345"), [][]int{{10345}, {11345}, {12345}, {13345}, {14345}, {15345}, {16345}, {17345}, {18345}, {19345}}, "1?345"},
		{plain(1), copies("1?345 123?5"), [][]int{{12345}}, "12345"},
		{plain(1), copies("1234? 1234?", "123?5 123?5"), [][]int{{12345}}, "12345"},
		// the figure in the check group restores the one in the reading, and the other way round
		{plain(3), copies("12?45 00678 90000 0291?"), [][]int{{12345, 678, 90000}}, "12345 00678 90000"},
	} {
		if m, e := wire.Could(x.c, x.list); e != api.OK || !same(m, x.want) {
			t.Error(i, m, e)
		}
		if g, e := wire.Known(x.c, x.list); e != api.OK || !slices.Equal(g, words(x.known)) {
			t.Error(i, g, e)
		}
	}
}

// TestCouldErrors is for P2.2, and for the errors of P2.3 and P2.4.
func TestCouldErrors(t *testing.T) {
	lists := map[api.Errno][][][]string{
		api.ErrArg:  {nil, {}},
		api.ErrLong: {copies(copyA, copyA, copyA, copyA), copies("", "", "", ""), make([][]string, 1000)},
		api.ErrNone: {copies(copyD), copies(copyA, copyD), copies("75310 27030 92340", "75810 27030 92840")},
	}
	for _, garbled := range wrongCopies() {
		lists[api.ErrArg] = append(lists[api.ErrArg], [][]string{garbled}, [][]string{words(copyD), garbled}, [][]string{words(copyA), words(copyB), garbled})
	}
	for want, some := range lists {
		for i, list := range some {
			checkNone(t, i, code(), list, want)
		}
	}
	for i, c := range wrongCodes() {
		checkNone(t, i, c, copies(copyA), api.ErrArg)
		checkNone(t, i, c, copies(copyA, copyA, copyA, copyA), api.ErrLong)
	}
}

// checkNone checks that functions return an error and nothing else for some copies; Clash contradicts where the others have no result.
func checkNone(t *testing.T, i int, c api.WireCode, list [][]string, want api.Errno) {
	t.Helper()
	if m, e := wire.Could(c, list); e != want || len(m) > 0 {
		t.Error(want, i, m, e)
	}
	if g, e := wire.Known(c, list); e != want || len(g) > 0 {
		t.Error(want, i, g, e)
	}
	if g, n, e := wire.Doubt(c, list); e != want || g != 0 || n != 0 {
		t.Error(want, i, g, n, e)
	}
	if set, e := wire.Clash(c, list); want != api.ErrNone && (e != want || len(set) > 0) || want == api.ErrNone && e != api.OK {
		t.Error(want, i, set, e)
	}
}

// TestCouldTried is for P2.2 and P0.2: it tries all messages of codes whose fields are narrow.
func TestCouldTried(t *testing.T) {
	d := dice(22)
	sizes := map[int]int{}
	for i := range 1500 {
		fields := 1 + i%3
		c, message := d.anyCode(fields, []int{3000, 50, 14}[i%3])
		list := d.garbles(c, message, 1+d.IntN(3))
		if d.IntN(4) == 0 {
			_, other := d.anyCode(fields, 1)
			for f := range other {
				other[f] = d.of(c.Fields[f])
			}
			list[0] = d.garble(c, other)
		}
		want := tried(c, list)
		m, e := wire.Could(c, list)
		if (e == api.ErrNone) != (len(want) == 0) || e == api.OK && !same(m, want) || e != api.OK && len(m) > 0 {
			t.Fatal(c, list, m, e, want)
		}
		checkKnown(t, c, list, want)
		sizes[min(len(want), 2)]++
	}
	if sizes[0] < 100 || sizes[1] < 100 || sizes[2] < 100 {
		t.Error("too few of a kind:", sizes)
	}
}

// checkKnown checks what is known of copies by the messages that they can be.
func checkKnown(t *testing.T, c api.WireCode, list [][]string, could [][]int) {
	t.Helper()
	known, e := wire.Known(c, list)
	if len(could) == 0 {
		if e != api.ErrNone || len(known) > 0 {
			t.Fatal(c, list, known, e)
		}
		return
	}
	if e != api.OK || len(known) != len(c.Fields) {
		t.Fatal(c, list, known, e)
	}
	for field, group := range known {
		if len(group) != 5 {
			t.Fatal(c, list, known)
		}
		for place := range 5 {
			figures := map[byte]bool{}
			for _, message := range could {
				figures[sent(message)[field][place]] = true
			}
			if (group[place] == '?') != (len(figures) > 1) || group[place] != '?' && !figures[group[place]] {
				t.Fatal(c, list, known, could)
			}
		}
	}
}

// undone returns what one copy can be, of a code with which everything can be wrong; it undoes each garbling of at most two figures.
func undone(garbled []string) map[string]bool {
	found := map[string]bool{}
	figures := []byte(strings.Join(garbled, ""))
	groups := len(garbled)
	var undo func(at, wrong int)
	undo = func(at, wrong int) {
		if at == len(figures) {
			for place := range 5 {
				sum := 0
				for g := range groups - 1 {
					sum += int(figures[g*5+place] - '0')
				}
				if sum%10 != int(figures[(groups-1)*5+place]-'0') {
					return
				}
			}
			found[string(figures)] = true
			return
		}
		was := figures[at]
		for figure := byte('0'); figure <= '9'; figure++ {
			more := 0
			if was != '?' && was != figure {
				more = 1
			}
			if wrong+more <= 2 {
				figures[at] = figure
				undo(at+1, wrong+more)
			}
		}
		figures[at] = was
	}
	undo(0, 0)
	return found
}

// TestCouldWide is for P2.2 and P0.2: fields that can be any readings, and all that can be wrong.
func TestCouldWide(t *testing.T) {
	d := dice(32)
	for i := range 9 {
		fields := 1 + i%3
		_, message := d.anyCode(fields, 100000)
		c := anything(fields, 2)
		garbled := d.garble(c, message)
		want := undone(garbled)
		m, e := wire.Could(c, [][]string{garbled})
		if e != api.OK || len(m) != len(want) || !slices.IsSortedFunc(m, slices.Compare[[]int]) {
			t.Fatal(garbled, len(m), len(want), e)
		}
		for _, message := range m {
			if !want[strings.Join(sent(message), "")] {
				t.Fatal(garbled, message)
			}
		}
	}
	// both that cannot be read at one place leave the most messages
	m, e := wire.Could(anything(3, 2), copies("?2345 ?0678 90000 02913"))
	if want := undone(words("?2345 ?0678 90000 02913")); e != api.OK || len(m) != len(want) || len(m) != 3160 {
		t.Error(len(m), len(want), e)
	}
}

// TestCouldTruth is for P2.2 and P0.2: the message that was sent is named, and a figure that is known is its figure.
func TestCouldTruth(t *testing.T) {
	d := dice(42)
	for range 3000 {
		c, message := d.anyCode(1+d.IntN(3), 100000)
		list := d.garbles(c, message, 1+d.IntN(3))
		m, e := wire.Could(c, list)
		if e != api.OK || !slices.IsSortedFunc(m, slices.Compare[[]int]) || len(slices.CompactFunc(slices.Clone(m), slices.Equal[[]int])) != len(m) {
			t.Fatal(c, message, list, m, e)
		}
		if !slices.ContainsFunc(m, func(x []int) bool { return slices.Equal(x, message) }) {
			t.Fatal(c, message, list, m)
		}
		for _, x := range m {
			for _, garbled := range list {
				if can, e := wire.Can(c, x, garbled); e != api.OK || !can {
					t.Fatal(c, x, garbled, can, e)
				}
			}
		}
		known, e := wire.Known(c, list)
		if e != api.OK || len(known) != len(message) {
			t.Fatal(c, list, known, e)
		}
		for field, group := range known {
			for place := range group {
				if group[place] != '?' && group[place] != sent(message)[field][place] {
					t.Fatal(c, message, list, known)
				}
			}
		}
	}
}

// TestHolesRestored is for P2.2 and P0.2: two figures that cannot be read, at two of the five places, are restored if none can be wrong.
func TestHolesRestored(t *testing.T) {
	d := dice(52)
	for i := range 3000 {
		c, message := d.anyCode(1+d.IntN(3), 100000)
		if i%2 == 0 {
			c.Most = 0
		} else {
			c.Turns = make([]int, 10)
		}
		garbled := sent(message)
		one, other := d.IntN(5), d.IntN(4)
		if other >= one {
			other++
		}
		for _, place := range []int{one, other} {
			g := d.IntN(len(garbled))
			garbled[g] = garbled[g][:place] + "?" + garbled[g][place+1:]
		}
		if m, e := wire.Could(c, [][]string{garbled}); e != api.OK || !same(m, [][]int{message}) {
			t.Fatal(c, message, garbled, m, e)
		}
		if g, e := wire.Known(c, [][]string{garbled}); e != api.OK || !slices.Equal(g, sent(message)[:len(message)]) {
			t.Fatal(c, message, garbled, g, e)
		}
	}
}

// TestFewerMessages is for P2.8: neither a copy more nor a wire that garbles fewer figures leaves more messages.
func TestFewerMessages(t *testing.T) {
	d := dice(28)
	fewer := 0
	for range 2000 {
		c, message := d.anyCode(1+d.IntN(3), 100000)
		list := d.garbles(c, message, 1+d.IntN(2))
		before, e := wire.Could(c, list)
		if e != api.OK {
			t.Fatal(c, list, e)
		}
		better := api.WireCode{Fields: c.Fields, Turns: slices.Clone(c.Turns), Most: d.IntN(c.Most + 1)}
		for i := range better.Turns {
			if d.IntN(3) == 0 {
				better.Turns[i] &= d.IntN(1024)
			}
		}
		more := append(cloned(list), d.garble(c, message))
		withMore, e := wire.Could(c, more)
		if e != api.OK {
			t.Fatal(c, more, e)
		}
		withBetter, e := wire.Could(better, list)
		if e != api.OK && e != api.ErrNone {
			t.Fatal(better, list, e)
		}
		for _, after := range [][][]int{withMore, withBetter} {
			for _, x := range after {
				if !slices.ContainsFunc(before, func(y []int) bool { return slices.Equal(x, y) }) {
					t.Fatal(c, better, more, x)
				}
			}
			if len(after) < len(before) {
				fewer++
			}
		}
	}
	if fewer < 500 {
		t.Error("too few were fewer:", fewer)
	}
}
