package wire_test

import (
	"slices"
	"testing"

	"isobar/api"
	"isobar/wire"
)

// orderedSets has the numbers of up to three copies, the fewest first, and otherwise in lexicographic order.
var orderedSets = [][]int{{0}, {1}, {2}, {0, 1}, {0, 2}, {1, 2}, {0, 1, 2}}

// chosen returns some copies.
func chosen(list [][]string, set []int) [][]string {
	var out [][]string
	for _, i := range set {
		out = append(out, list[i])
	}
	return out
}

// TestClashExamples is for P2.3.
func TestClashExamples(t *testing.T) {
	// of a code with holes in each copy, each two leave a message, but all three do not
	three := copies("??345 12345", "12345 1??45", "123?? 12345")
	for i, x := range []struct {
		c    api.WireCode
		list [][]string
		want []int
		e    api.Errno
	}{
		{code(), copies(copyB, copyD), []int{1}, api.OK},
		{code(), copies(copyA, copyB), nil, api.ErrNone},
		{code(), copies(copyA), nil, api.ErrNone},
		{code(), copies(copyD), []int{0}, api.OK},
		{code(), copies(copyA, copyD, copyD), []int{1}, api.OK},
		{code(), copies("75310 27030 92340", "75810 27030 92840"), []int{0, 1}, api.OK},
		{code(), copies("75310 27030 92340", "75310 27030 92340", "75810 27030 92840"), []int{0, 2}, api.OK},
		{code(), copies(copyA, "75310 27030 92340", "75810 27030 92840"), []int{1, 2}, api.OK},
		{code(), copies("75310 27030 92340", "75810 27030 92840", copyD), []int{2}, api.OK},
		{plain(1), three, nil, api.ErrNone},
		{plain(1), copies("1?345 1?345", "1?345 1?345", "1?345 1?345"), nil, api.ErrNone},
	} {
		if set, e := wire.Clash(x.c, x.list); e != x.e || !slices.Equal(set, x.want) {
			t.Error(i, set, e)
		}
	}
	// the second figure is a 2, a 3 or a 4, each of which can be received as two of 7, 8 and 9
	all := plain(1)
	all.Fields[0], all.Most = span(12345, 14345), 1
	all.Turns[2], all.Turns[3], all.Turns[4] = 1<<7|1<<8, 1<<8|1<<9, 1<<7|1<<9
	if set, e := wire.Clash(all, copies("17345 1?345", "18345 1?345", "19345 1?345")); e != api.OK || !slices.Equal(set, []int{0, 1, 2}) {
		t.Error(set, e)
	}
}

// TestClashTried is for P2.3 and P0.2: it tries which copies contradict, the fewest first.
func TestClashTried(t *testing.T) {
	d := dice(23)
	sizes := map[int]int{}
	for range 3000 {
		c, message := d.anyCode(1, 300)
		list := d.garbles(c, message, 1+d.IntN(3))
		for i := range list {
			if d.IntN(3) == 0 {
				list[i] = d.garble(anything(1, 2), []int{d.of(c.Fields[0])})
			}
		}
		var want []int
		for _, set := range orderedSets {
			if set[len(set)-1] < len(list) && len(want) == 0 && len(tried(c, chosen(list, set))) == 0 {
				want = set
			}
		}
		set, e := wire.Clash(c, list)
		if (e == api.ErrNone) != (len(want) == 0) || (e == api.OK) != (len(want) > 0) || !slices.Equal(set, want) {
			t.Fatal(c, list, set, e, want)
		}
		sizes[len(set)]++
		for i := range set {
			if len(set) == 1 {
				continue
			}
			left := chosen(list, slices.Delete(slices.Clone(set), i, i+1))
			if m, e := wire.Could(c, left); e != api.OK || len(m) == 0 {
				t.Fatal(c, list, set, i, m, e)
			}
		}
	}
	if sizes[0] < 100 || sizes[1] < 100 || sizes[2] < 100 {
		t.Error("too few of a kind:", sizes)
	}
}

// TestDoubtExamples is for P2.4.
func TestDoubtExamples(t *testing.T) {
	// the second reading is surely 27030, so only the first and the check group help
	later := code()
	later.Fields[0], later.Fields[1] = later.Fields[1], later.Fields[0]
	for i, x := range []struct {
		c           api.WireCode
		list        [][]string
		group, most int
	}{
		{code(), copies(copyA), 0, 1},
		{code(), copies(copyB), 0, 1},
		{code(), copies(copyA, copyB), 0, 1},
		{later, copies("27030 75310 92840"), 1, 1},
		{plain(1), copies("1?345 1?345"), 0, 1},
		{plain(2), copies("1?345 1?345 24680"), 0, 1},
		{plain(2), copies("12345 1?345 2?680"), 1, 1},
		{plain(2), copies("?2345 12345 ?4680"), 0, 1},
		{anything(1, 1), copies("12345 12345"), 0, 1},
		{anything(1, 2), copies("12345 12345"), 0, 1},
		{anything(2, 1), copies("12345 12345 24680"), 0, 1},
		// with two wrong figures the first reading is as it was received in 46 of 136 messages
		{anything(2, 2), copies("12345 12345 24680"), 0, 46},
	} {
		if g, n, e := wire.Doubt(x.c, x.list); e != api.OK || g != x.group || n != x.most {
			t.Error(i, g, n, e)
		}
	}
}

// TestDoubtTried is for P2.4: whatever comes when the group is repeated, no more messages are left than is told, and for no other group that number is less.
func TestDoubtTried(t *testing.T) {
	d := dice(24)
	later := 0
	for range 2000 {
		c, message := d.anyCode(1+d.IntN(3), 100000)
		list := d.garbles(c, message, 1+d.IntN(2))
		could, _ := wire.Could(c, list)
		repeat, most, e := wire.Doubt(c, list)
		if e != api.OK {
			t.Fatal(c, list, e)
		}
		for g := range len(c.Fields) + 1 {
			left := map[string]int{}
			greatest := 0
			for _, x := range could {
				left[sent(x)[g]]++
				greatest = max(greatest, left[sent(x)[g]])
			}
			if g == repeat && greatest != most || greatest < most || g < repeat && greatest == most {
				t.Fatal(c, list, repeat, most, g, greatest)
			}
		}
		if repeat > 0 {
			later++
		}
	}
	if later < 100 {
		t.Error("too few later groups:", later)
	}
}
