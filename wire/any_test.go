package wire_test

import (
	"fmt"
	"math"
	"slices"
	"testing"

	"isobar/api"
	"isobar/wire"
)

// strange returns a number that is often far out of range.
func (d dicer) strange() int {
	numbers := []int{math.MinInt, math.MinInt32, -1, 0, 1, 2, 3, 4, 5, 6, 10, 100, 101, 1023, 1024, 9999, 10000, 10001, 99999, 100000, math.MaxInt32, math.MaxInt}
	return numbers[d.IntN(len(numbers))]
}

// strangeText returns a text that often is no group, no word and no token.
func (d dicer) strangeText() string {
	texts := []string{"", "?", "?????", "00000", "12345", "1?345", "99999", "abaft", "abbot", "baulk", "ab?ft", "abaft ", "\xff\xff\xff\xff\xff", "\u00e9\u00e9\u00e9", "-1234", "+1234", "1234", "123456", "12\n45", "ABAFT", "92840", "75310", "27030", chapterText}
	return texts[d.IntN(len(texts))]
}

// strangeTexts returns some such texts.
func (d dicer) strangeTexts(most int) []string {
	var out []string
	for range d.IntN(most + 1) {
		out = append(out, d.strangeText())
	}
	return out
}

// question is arguments for all functions.
type question struct {
	code       api.WireCode
	message    []int
	group      []string
	copies     [][]string
	book       []api.WireEntry
	word       string
	tokens     []string
	tariff     api.WireTariff
	net        api.WireNet
	a, b, c, d int
	text       string
}

// strangeQuestion returns arguments some of which are strange.
func (d dicer) strangeQuestion() question {
	q := question{code: code(), message: []int{75810, 27030}, group: words(copyA), copies: copies(copyA, copyB), book: book(), word: "abaft", tokens: words("abaft 92840"), net: net(), tariff: api.WireTariff{Open: 100, Free: 2, More: 31}, a: 1, b: 3, c: 3, d: 3, text: chapterText}
	for range d.IntN(4) {
		for _, change := range []func(){
			func() { q.code.Fields[d.IntN(len(q.code.Fields))] = span(d.strange(), d.strange()) },
			func() { q.code.Fields = slices.Repeat([]api.Span{span(0, 99999)}, 1+d.IntN(4)) },
			func() { q.code.Turns[d.IntN(10)] = d.strange() },
			func() { q.code.Turns = slices.Repeat([]int{1023}, 10+d.IntN(2)) },
			func() { q.code.Most = d.strange() },
			func() { q.message = slices.Repeat([]int{d.strange()}, d.IntN(5)) },
			func() { q.message[0] = d.strange() },
			func() { q.group = d.strangeTexts(4) },
			func() { q.copies = append(q.copies, q.group) },
			func() { q.copies = [][]string{d.strangeTexts(4)} },
			func() { q.copies = make([][]string, d.IntN(6)) },
			func() { q.book[d.IntN(3)].Word = d.strangeText() },
			func() { q.book[d.IntN(3)].First = d.strange() },
			func() { q.word = d.strangeText() },
			func() { q.tokens = d.strangeTexts(10) },
			func() { q.tariff = api.WireTariff{Open: d.strange(), Free: d.strange(), More: d.strange()} },
			func() { q.net.Offices = d.strange() },
			func() {
				q.net.Lines[d.IntN(5)] = api.WireLine{From: d.strange(), To: d.strange(), Price: d.strange(), Wrong: d.strange()}
			},
			func() { q.a, q.b = d.strange(), d.strange() },
			func() { q.c, q.d = d.strange(), d.strange() },
			func() { q.text = d.strangeText() + d.strangeText() },
		} {
			if d.IntN(8) == 0 && len(q.code.Turns) > 0 && len(q.message) > 0 {
				change()
			}
		}
	}
	return q
}

// answer is what a function returned: all results but the error, whether they are zero values, and the error.
type answer struct {
	name string
	text string
	zero bool
	e    api.Errno
}

// ask calls all functions.
func ask(q question) []answer {
	var out []answer
	add := func(name string, zero bool, e api.Errno, results ...any) {
		out = append(out, answer{name, fmt.Sprint(results...), zero, e})
	}
	add("Check", true, wire.Check(q.code))
	g, e := wire.Send(q.code, q.message)
	add("Send", len(g) == 0, e, g)
	can, e := wire.Can(q.code, q.message, q.group)
	add("Can", !can, e, can)
	m, e := wire.Could(q.code, q.copies)
	add("Could", len(m) == 0, e, m)
	g, e = wire.Known(q.code, q.copies)
	add("Known", len(g) == 0, e, g)
	n, e := wire.Clash(q.code, q.copies)
	add("Clash", len(n) == 0, e, n)
	a, b, e := wire.Doubt(q.code, q.copies)
	add("Doubt", a == 0 && b == 0, e, a, b)
	n, e = wire.Look(q.book, q.word, q.a)
	add("Look", len(n) == 0, e, n)
	g, e = wire.Pack(q.code, q.book, q.message)
	add("Pack", len(g) == 0, e, g)
	n, e = wire.Unpack(q.code, q.book, q.tokens)
	add("Unpack", len(n) == 0, e, n)
	a, e = wire.Cost(q.tariff, q.a, q.b)
	add("Cost", a == 0, e, a)
	n, b, e = wire.Route(q.net, q.a, q.b, q.c, q.d)
	add("Route", len(n) == 0 && b == 0, e, n, b)
	s, e := wire.Print(q.a, q.tokens)
	add("Print", s == "", e, s)
	a, g, e = wire.Read(q.text)
	add("Read", a == 0 && len(g) == 0, e, a, g)
	return out
}

// TestAnyArguments is for P0.1 and the rules R2, R4 and R8: whatever the arguments, nothing panics, nothing is changed, and with an error nothing else is returned.
func TestAnyArguments(t *testing.T) {
	d := dice(1)
	results := map[string]map[api.Errno]int{}
	for range 5000 {
		q := d.strangeQuestion()
		before := fmt.Sprintf("%#v", q)
		got := ask(q)
		if after := fmt.Sprintf("%#v", q); after != before {
			t.Fatal(before, after)
		}
		if again := ask(q); !slices.Equal(again, got) {
			t.Fatal(before, got, again)
		}
		for _, a := range got {
			if a.e != api.OK && !a.zero {
				t.Fatal(before, a)
			}
			if results[a.name] == nil {
				results[a.name] = map[api.Errno]int{}
			}
			results[a.name][a.e]++
		}
	}
	for name, counts := range results {
		if counts[api.OK] == 0 || len(counts) < 2 {
			t.Error("too few kinds of results:", name, counts)
		}
	}
}

// TestNoSharing is for the rules R3 and R4: results share no memory with arguments, with each other or with those of other calls.
func TestNoSharing(t *testing.T) {
	c, list := anything(2, 1), copies("1?345 12345 24680")
	one, _ := wire.Could(c, list)
	other, _ := wire.Could(c, list)
	for i := range one {
		one[i] = append(one[i], 7)
		one[i][0] = -1
	}
	for i := range other {
		if other[i][0] < 0 || i > 0 && slices.Equal(other[i], other[i-1]) {
			t.Fatal(i, other)
		}
	}
	message, tokens := []int{75810, 27030}, words("75810 27030 92840")
	sent, _ := wire.Send(code(), message)
	packed, _ := wire.Pack(code(), nil, message)
	known, _ := wire.Known(code(), [][]string{tokens})
	_, read, _ := wire.Read(chapterText)
	for _, result := range [][]string{sent, packed, known, read} {
		result[0] = "other"
	}
	if again, e := wire.Send(code(), message); e != api.OK || !slices.Equal(again, tokens) || tokens[0] != "75810" {
		t.Error(again, e, tokens)
	}
	unpacked, _ := wire.Unpack(code(), book(), tokens)
	unpacked[0] = 0
	if again, e := wire.Unpack(code(), book(), tokens); e != api.OK || !slices.Equal(again, message) || message[0] != 75810 {
		t.Error(again, e, message)
	}
}

// FuzzRead is for P0.1 and P2.7: no text makes Read panic, and what it reads is written the same.
func FuzzRead(f *testing.F) {
	for _, text := range []string{"", "end 000\n", chapterText, "no 0 words 0\nend 000\n", "no 1 words 1\n?????\nend 037\n", "no  words \nend \n", "\xff\n", "no 99999999999999999999 words 0\nend 000\n"} {
		f.Add(text)
	}
	f.Fuzz(func(t *testing.T, text string) {
		number, tokens, e := wire.Read(text)
		if e != api.OK && (number != 0 || len(tokens) > 0) {
			t.Fatal(number, tokens, e)
		}
		if e != api.OK {
			return
		}
		if again, e := wire.Print(number, tokens); e != api.OK || again != text {
			t.Fatal(number, tokens, again, e)
		}
	})
}
