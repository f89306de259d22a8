package wire_test

import (
	"fmt"
	"math/rand/v2"
	"slices"
	"strings"

	"isobar/api"
)

// span returns a span.
func span(low, high int) api.Span { return api.Span{Low: low, High: high} }

// words returns the words of a text, for groups, tokens and copies.
func words(text string) []string { return strings.Fields(text) }

// turned returns ten sets of figures, in which the figures of each pair can be received as each other.
func turned(pairs ...[2]int) []int {
	turns := make([]int, 10)
	for _, p := range pairs {
		turns[p[0]] |= 1 << p[1]
		turns[p[1]] |= 1 << p[0]
	}
	return turns
}

// code returns the chapter's code c.
func code() api.WireCode {
	return api.WireCode{Fields: []api.Span{span(73000, 78000), span(0, 35999)}, Turns: turned([2]int{1, 7}, [2]int{3, 8}), Most: 1}
}

// The chapter's copies.
const (
	copyA = "75310 27030 92840"
	copyB = "75810 27030 92840"
	copyD = "75810 27031 92840"
)

// copies returns copies of which the groups are in a text each.
func copies(texts ...string) [][]string {
	var out [][]string
	for _, text := range texts {
		out = append(out, words(text))
	}
	return out
}

// book returns the chapter's book.
func book() []api.WireEntry {
	return []api.WireEntry{
		{Word: "abaft", First: 75810, Second: 27030},
		{Word: "baulk", First: 27030, Second: 12000},
		{Word: "abbot", First: 75810, Second: 27030},
	}
}

// plain returns a code of fields that can be any readings, and of which no figure can be wrong.
func plain(fields int) api.WireCode {
	return api.WireCode{Fields: slices.Repeat([]api.Span{span(0, 99999)}, fields), Turns: make([]int, 10)}
}

// anything returns a code of fields that can be any readings, each figure of which can be received as any other one.
func anything(fields, most int) api.WireCode {
	c := plain(fields)
	for i := range c.Turns {
		c.Turns[i] = 1023
	}
	c.Most = most
	return c
}

// sent returns the groups of a message, as the chapter makes them.
func sent(message []int) []string {
	var out []string
	for _, reading := range message {
		out = append(out, fmt.Sprintf("%05d", reading))
	}
	last := 0
	for unit := 10000; unit > 0; unit /= 10 {
		sum := 0
		for _, reading := range message {
			sum += reading / unit % 10
		}
		last = last*10 + sum%10
	}
	return append(out, fmt.Sprintf("%05d", last))
}

// canCome reports whether a copy can have come from a message, as the chapter says.
func canCome(c api.WireCode, message []int, garbled []string) bool {
	sound, got := strings.Join(sent(message), ""), strings.Join(garbled, "")
	wrong := 0
	for i := range got {
		if got[i] == '?' || got[i] == sound[i] {
			continue
		}
		if set := c.Turns[sound[i]-'0']; set/(1<<(got[i]-'0'))%2 == 0 {
			return false
		}
		wrong++
	}
	return wrong <= c.Most
}

// dicer is numbers that look like chance but are the same in each run.
type dicer struct {
	*rand.Rand
}

// dice returns a dicer.
func dice(seed uint64) dicer { return dicer{rand.New(rand.NewPCG(seed, 2))} }

// of returns a number of a span.
func (d dicer) of(s api.Span) int { return s.Low + d.IntN(s.High-s.Low+1) }

// anyCode returns a code and a message of it; its fields are wide at most.
func (d dicer) anyCode(fields, wide int) (api.WireCode, []int) {
	c := api.WireCode{Turns: make([]int, 10), Most: d.IntN(3)}
	var message []int
	for range fields {
		low := d.IntN(100000)
		f := span(low, min(99999, low+d.IntN(wide)))
		c.Fields = append(c.Fields, f)
		message = append(message, d.of(f))
	}
	share := d.IntN(4)
	for i := range c.Turns {
		for bit := range 10 {
			if d.IntN(4) < share {
				c.Turns[i] |= 1 << bit
			}
		}
	}
	return c, message
}

// garble returns a copy of a message, garbled within its code.
func (d dicer) garble(c api.WireCode, message []int) []string {
	figures := []byte(strings.Join(sent(message), " "))
	for range d.IntN(c.Most + 1) {
		at := d.IntN(len(figures))
		as := d.IntN(10)
		// a figure that was changed already is left as it is, so that each one is wrong by its own set
		if figures[at] != ' ' && figures[at] == []byte(strings.Join(sent(message), " "))[at] && c.Turns[figures[at]-'0']>>as&1 == 1 {
			figures[at] = byte('0' + as)
		}
	}
	for range d.IntN(3) {
		if at := d.IntN(len(figures)); figures[at] != ' ' {
			figures[at] = '?'
		}
	}
	return words(string(figures))
}

// garbles returns some copies of a message.
func (d dicer) garbles(c api.WireCode, message []int, count int) [][]string {
	var out [][]string
	for range count {
		out = append(out, d.garble(c, message))
	}
	return out
}

// tried returns what copies can be; it tries all messages of the code.
func tried(c api.WireCode, list [][]string) [][]int {
	var out [][]int
	message := make([]int, len(c.Fields))
	var fill func(at int)
	fill = func(at int) {
		if at < len(message) {
			for n := c.Fields[at].Low; n <= c.Fields[at].High; n++ {
				message[at] = n
				fill(at + 1)
			}
			return
		}
		for _, garbled := range list {
			if !canCome(c, message, garbled) {
				return
			}
		}
		out = append(out, slices.Clone(message))
	}
	fill(0)
	return out
}

// cloned returns copies that share no memory with others.
func cloned(list [][]string) [][]string {
	var out [][]string
	for _, garbled := range list {
		out = append(out, slices.Clone(garbled))
	}
	return out
}

// same reports whether two lists of lists are equal.
func same[T comparable](a, b [][]T) bool {
	return slices.EqualFunc(a, b, slices.Equal[[]T])
}

// wrongCodes returns codes that are each wrong in one way; otherwise the chapter's copies and messages are right for them.
func wrongCodes() []api.WireCode {
	var out []api.WireCode
	for _, spoil := range []func(*api.WireCode){
		func(c *api.WireCode) { c.Fields = nil },
		func(c *api.WireCode) { c.Fields = slices.Repeat(c.Fields, 2) },
		func(c *api.WireCode) { c.Fields[0] = span(-1, 78000) },
		func(c *api.WireCode) { c.Fields[1] = span(0, 100000) },
		func(c *api.WireCode) { c.Fields[0] = span(75811, 75810) },
		func(c *api.WireCode) { c.Turns = nil },
		func(c *api.WireCode) { c.Turns = c.Turns[:9] },
		func(c *api.WireCode) { c.Turns = append(c.Turns, 0) },
		func(c *api.WireCode) { c.Turns[0] = -1 },
		func(c *api.WireCode) { c.Turns[9] = 1024 },
		func(c *api.WireCode) { c.Most = -1 },
		func(c *api.WireCode) { c.Most = 3 },
	} {
		c := code()
		spoil(&c)
		out = append(out, c)
	}
	return out
}

// wrongMessages returns lists of readings that are no messages of the chapter's code.
func wrongMessages() [][]int {
	return [][]int{nil, {75810}, {75810, 27030, 0}, {72999, 27030}, {78001, 27030}, {75810, -1}, {75810, 36000}, {27030, 75810}, {-75810, 27030}}
}

// wrongCopies returns lists of groups that are no copies for the chapter's code.
func wrongCopies() [][]string {
	return [][]string{
		nil, {}, words("75310 27030"), words("75310 27030 92840 92840"), words("7531 27030 92840"), words("753100 27030 92840"),
		words("75310 27030 9284"), words("75310 ??030 ?2840"), words("??310 27030 92?40"), words("75310 ????? 92840"),
		words("7531o 27030 92840"), words("75310 27030 abaft"), words("75310 -7030 92840"), words("75310 27030 9284/"), words("75310 27030 9284:"),
		{"75310", "", "92840"}, {"75310", "27030", "9284\xb0"}, {"75310", "27030", "928\u0664"}, {"75310", "27030", "92840\n"}, {"75310", "2703 ", "92840"}, {"75310 27030 92840"},
	}
}

// wrongBooks returns books that are each wrong in one way.
func wrongBooks() [][]api.WireEntry {
	var out [][]api.WireEntry
	for _, spoil := range []func([]api.WireEntry){
		func(l []api.WireEntry) { l[0].Word = "" },
		func(l []api.WireEntry) { l[0].Word = "abaf" },
		func(l []api.WireEntry) { l[0].Word = "abafts" },
		func(l []api.WireEntry) { l[1].Word = "Baulk" },
		func(l []api.WireEntry) { l[1].Word = "bau?k" },
		func(l []api.WireEntry) { l[1].Word = "bau1k" },
		func(l []api.WireEntry) { l[1].Word = "baul{" },
		func(l []api.WireEntry) { l[1].Word = "baul`" },
		func(l []api.WireEntry) { l[1].Word = "bau\u00e9" },
		func(l []api.WireEntry) { l[1].Word = "baul\xff" },
		func(l []api.WireEntry) { l[2].Word = "abaft" },
		func(l []api.WireEntry) { l[2].Word = "baulk" },
		func(l []api.WireEntry) { l[0].First = -1 },
		func(l []api.WireEntry) { l[1].First = 100000 },
		func(l []api.WireEntry) { l[2].Second = -1 },
		func(l []api.WireEntry) { l[0].Second = 100000 },
	} {
		l := book()
		spoil(l)
		out = append(out, l)
	}
	return append(out, bigBook(13))
}

// bigBook returns a book with some entries.
func bigBook(entries int) []api.WireEntry {
	var out []api.WireEntry
	for i := range entries {
		out = append(out, api.WireEntry{Word: fmt.Sprintf("word%c", 'a'+i), First: 70000 + i, Second: i})
	}
	return out
}
