package wire_test

import (
	"fmt"
	"slices"
	"strings"
	"testing"

	"isobar/api"
	"isobar/wire"
)

// TestLookExamples is for P2.5.
func TestLookExamples(t *testing.T) {
	for i, x := range []struct {
		word string
		miss int
		want []int
	}{
		{"ab?ft", 0, []int{0}},
		{"abb?t", 1, []int{0, 2}},
		{"abb?t", 0, []int{2}},
		{"abaft", 0, []int{0}},
		{"abaft", 1, []int{0}},
		{"abaft", 2, []int{0, 2}},
		{"abaft", 4, []int{0, 2}},
		{"abaft", 5, []int{0, 1, 2}},
		{"abaft", 3, []int{0, 2}},
		{"?????", 0, []int{0, 1, 2}},
		{"zzzzz", 5, []int{0, 1, 2}},
		{"zzzzz", 4, nil},
		{"?zzzz", 4, []int{0, 1, 2}},
		{"zbaft", 0, nil},
		{"zbaft", 1, []int{0}},
		{"abafz", 1, []int{0}},
	} {
		n, e := wire.Look(book(), x.word, x.miss)
		if !slices.Equal(n, x.want) || (e == api.ErrNone) != (len(x.want) == 0) || (e == api.OK) != (len(x.want) > 0) {
			t.Error(i, n, e)
		}
	}
	for _, empty := range [][]api.WireEntry{nil, {}} {
		if n, e := wire.Look(empty, "abaft", 5); e != api.ErrNone || len(n) > 0 {
			t.Error(n, e)
		}
	}
	if n, e := wire.Look(bigBook(12), "word?", 0); e != api.OK || !slices.Equal(n, []int{0, 1, 2, 3, 4, 5, 6, 7, 8, 9, 10, 11}) {
		t.Error(n, e)
	}
}

// TestLookErrors is for P2.5.
func TestLookErrors(t *testing.T) {
	for i, l := range wrongBooks() {
		if n, e := wire.Look(l, "abaft", 0); e != api.ErrArg || len(n) > 0 {
			t.Error(i, n, e)
		}
	}
	for i, word := range []string{"", "abaf", "abafts", "Abaft", "aba1t", "ab ft", "abaft\n", "abaf\n", "aba\u00e9", "abaf\xff", "abaf`", "abaf{", "ab*ft"} {
		if n, e := wire.Look(book(), word, 5); e != api.ErrArg || len(n) > 0 {
			t.Error(i, n, e)
		}
	}
	for _, miss := range []int{-1, 6} {
		if n, e := wire.Look(book(), "abaft", miss); e != api.ErrArg || len(n) > 0 {
			t.Error(miss, n, e)
		}
	}
}

// TestLookTried is for P2.5.
func TestLookTried(t *testing.T) {
	d := dice(25)
	for range 3000 {
		l := d.anyBook(10, 3)
		word := ""
		for range 5 {
			word += string("abc?"[d.IntN(4)])
		}
		miss := d.IntN(6)
		var want []int
		for i, entry := range l {
			wrong := 0
			for place := range 5 {
				if !strings.Contains("?"+entry.Word[place:place+1], word[place:place+1]) {
					wrong++
				}
			}
			if wrong <= miss {
				want = append(want, i)
			}
		}
		if n, e := wire.Look(l, word, miss); !slices.Equal(n, want) || (e == api.OK) != (len(want) > 0) || e != api.OK && e != api.ErrNone {
			t.Fatal(l, word, miss, n, e, want)
		}
	}
}

// anyBook returns a book with less than some entries, whose readings are less than another number.
func (d dicer) anyBook(entries, readings int) []api.WireEntry {
	var out []api.WireEntry
	used := map[string]bool{}
	for range d.IntN(entries) {
		word := ""
		for range 5 {
			word += string("abc"[d.IntN(3)])
		}
		if !used[word] {
			out = append(out, api.WireEntry{Word: word, First: d.IntN(readings), Second: d.IntN(readings)})
			used[word] = true
		}
	}
	return out
}

// threeBook returns a book in which the readings 1 2 3 have several packings.
func threeBook() []api.WireEntry {
	return []api.WireEntry{{Word: "later", First: 2, Second: 3}, {Word: "early", First: 1, Second: 2}, {Word: "again", First: 1, Second: 2}, {Word: "after", First: 3, Second: 1}}
}

// TestPackExamples is for P2.5.
func TestPackExamples(t *testing.T) {
	for i, x := range []struct {
		c       api.WireCode
		l       []api.WireEntry
		message []int
		want    string
	}{
		{code(), book(), []int{75810, 27030}, "abaft 92840"},
		{code(), book()[1:], []int{75810, 27030}, "abbot 92840"},
		{code(), book()[1:2], []int{75810, 27030}, "75810 27030 92840"},
		{code(), nil, []int{75810, 27030}, "75810 27030 92840"},
		{code(), book(), []int{75811, 27030}, "75811 27030 92841"},
		{plain(1), book(), []int{75810}, "75810 75810"},
		{plain(3), book(), []int{75810, 27030, 12000}, "abaft 12000 04840"},
		{plain(3), book()[1:2], []int{75810, 27030, 12000}, "75810 baulk 04840"},
		// the first token that is not the same kind is a Word, not a group
		{plain(3), threeBook(), []int{1, 2, 3}, "early 00003 00006"},
		{plain(3), threeBook()[:1], []int{1, 2, 3}, "00001 later 00006"},
		{plain(3), threeBook(), []int{2, 3, 1}, "later 00001 00006"},
		{plain(3), threeBook(), []int{3, 2, 1}, "00003 00002 00001 00006"},
		{plain(2), []api.WireEntry{{Word: "stone"}}, []int{0, 0}, "stone 00000"},
		{plain(3), []api.WireEntry{{Word: "stone"}}, []int{0, 0, 0}, "stone 00000 00000"},
	} {
		if p, e := wire.Pack(x.c, x.l, x.message); e != api.OK || !slices.Equal(p, words(x.want)) {
			t.Error(i, p, e)
		}
		if m, e := wire.Unpack(x.c, x.l, words(x.want)); e != api.OK || !slices.Equal(m, x.message) {
			t.Error(i, m, e)
		}
	}
}

// TestUnpackExamples is for P2.5.
func TestUnpackExamples(t *testing.T) {
	for i, x := range []struct {
		c      api.WireCode
		l      []api.WireEntry
		tokens []string
		want   []int
	}{
		{code(), book(), words("abbot 92840"), []int{75810, 27030}},
		{code(), book(), words("75810 27030 92840"), []int{75810, 27030}},
		{plain(3), threeBook(), words("00001 later 00006"), []int{1, 2, 3}},
		{plain(3), threeBook(), words("again 00003 00006"), []int{1, 2, 3}},
		{plain(3), threeBook(), words("00001 00002 00003 00006"), []int{1, 2, 3}},
		{code(), book(), words("abaft 92841"), nil},
		{code(), book(), words("abaft"), nil},
		{code(), book(), words("92840"), nil},
		{code(), book(), nil, nil},
		{code(), book(), []string{}, nil},
		{code(), book(), []string{"abaft", "92840", ""}, nil},
		{code(), book(), []string{"", "abaft", "92840"}, nil},
		{code(), book(), []string{"abaft 92840"}, nil},
		{code(), book(), words("abaft abaft"), nil},
		{code(), book(), words("92840 abaft"), nil},
		{code(), book(), words("ab?ft 92840"), nil},
		{code(), book(), words("abaft 9284?"), nil},
		{code(), book(), words("zebra 92840"), nil},
		{code(), book(), words("75810 27030"), nil},
		{code(), book(), words("75810 92840"), nil},
		{code(), book(), words("75810 abaft 67740"), nil},
		{code(), book(), words("abaft 00000 92840"), nil},
		{code(), book(), words("75810 27030 00000 92840"), nil},
		{code(), book(), words("7581 27030 92840"), nil},
		{code(), book(), words("075810 27030 92840"), nil},
		{code(), book(), []string{"75810", "27030", "92840\n"}, nil},
		{code(), book(), []string{"75810", "+7030", "92840"}, nil},
		{code(), book(), []string{"7581\xff", "27030", "92840"}, nil},
		{code(), book(), []string{"\xff", "\u0661\u0662", strings.Repeat("0", 1000)}, nil},
		// readings that the fields do not have
		{code(), book(), words("72999 27030 99929"), nil},
		{code(), book(), words("75810 36000 01810"), nil},
		{code(), book(), words("baulk 39030"), nil},
		{plain(2), book(), words("baulk 39030"), []int{27030, 12000}},
		{plain(3), threeBook(), words("early later 00008"), nil},
		{plain(1), nil, words("00007 00007"), []int{7}},
		{plain(1), nil, words("00007"), nil},
		{plain(1), nil, words("00000"), nil},
		{code(), book(), slices.Repeat(words("abaft"), 8), nil},
		{code(), book(), make([]string, 8), nil},
	} {
		want := api.OK
		if x.want == nil {
			want = api.ErrText
		}
		if m, e := wire.Unpack(x.c, x.l, x.tokens); e != want || !slices.Equal(m, x.want) {
			t.Error(i, m, e)
		}
	}
}

// TestPackErrors is for P2.5.
func TestPackErrors(t *testing.T) {
	message, tokens := []int{75810, 27030}, words("abaft 92840")
	for i, c := range wrongCodes() {
		if p, e := wire.Pack(c, book(), message); e != api.ErrArg || len(p) > 0 {
			t.Error(i, p, e)
		}
		if m, e := wire.Unpack(c, book(), tokens); e != api.ErrArg || len(m) > 0 {
			t.Error(i, m, e)
		}
		if m, e := wire.Unpack(c, book(), make([]string, 9)); e != api.ErrLong || len(m) > 0 {
			t.Error(i, m, e)
		}
	}
	for i, l := range wrongBooks() {
		if p, e := wire.Pack(code(), l, message); e != api.ErrArg || len(p) > 0 {
			t.Error(i, p, e)
		}
		if m, e := wire.Unpack(code(), l, words("no telegram")); e != api.ErrArg || len(m) > 0 {
			t.Error(i, m, e)
		}
	}
	for i, message := range wrongMessages() {
		if p, e := wire.Pack(code(), book(), message); e != api.ErrArg || len(p) > 0 {
			t.Error(i, p, e)
		}
	}
	if m, e := wire.Unpack(code(), book(), append(tokens, make([]string, 7)...)); e != api.ErrLong || len(m) > 0 {
		t.Error(m, e)
	}
}

// packings returns all packings of a message, each with its kinds: W for a Word, g for a group.
func packings(l []api.WireEntry, message []int) map[string]string {
	out := map[string]string{}
	var extend func(at int, tokens, kinds string)
	extend = func(at int, tokens, kinds string) {
		if at == len(message) {
			out[tokens+sent(message)[at]] = kinds
			return
		}
		extend(at+1, tokens+fmt.Sprintf("%05d ", message[at]), kinds+"g")
		for _, entry := range l {
			if at+1 < len(message) && entry.First == message[at] && entry.Second == message[at+1] {
				extend(at+2, tokens+entry.Word+" ", kinds+"W")
			}
		}
	}
	extend(0, "", "")
	return out
}

// TestPackTried is for P2.5: what was packed is unpacked, also if it is not packed best; and no packing is better.
func TestPackTried(t *testing.T) {
	d := dice(35)
	saved := 0
	for range 5000 {
		l := d.anyBook(13, 3)
		c := plain(1 + d.IntN(3))
		var message []int
		for range c.Fields {
			message = append(message, d.IntN(3))
		}
		tokens, e := wire.Pack(c, l, message)
		if e != api.OK {
			t.Fatal(l, message, e)
		}
		all := packings(l, message)
		kinds, isPacking := all[strings.Join(tokens, " ")]
		if !isPacking {
			t.Fatal(l, message, tokens)
		}
		for other, otherKinds := range all {
			// W is less than g
			if len(otherKinds) < len(kinds) || len(otherKinds) == len(kinds) && otherKinds < kinds {
				t.Fatal(l, message, tokens, other)
			}
			if m, e := wire.Unpack(c, l, words(other)); e != api.OK || !slices.Equal(m, message) {
				t.Fatal(l, message, other, m, e)
			}
		}
		for _, token := range tokens {
			i := slices.IndexFunc(l, func(x api.WireEntry) bool { return x.Word == token })
			if i >= 0 && slices.ContainsFunc(l[:i], func(x api.WireEntry) bool { return x.First == l[i].First && x.Second == l[i].Second }) {
				t.Fatal(l, message, tokens)
			}
		}
		if len(tokens) <= len(message) {
			saved++
		}
	}
	if saved < 500 {
		t.Error("too few words were used:", saved)
	}
}
