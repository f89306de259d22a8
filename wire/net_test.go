package wire_test

import (
	"math"
	"slices"
	"testing"

	"isobar/api"
	"isobar/wire"
)

// TestCostExamples is for P2.6.
func TestCostExamples(t *testing.T) {
	chapter := api.WireTariff{Open: 100, Free: 2, More: 31}
	for i, x := range []struct {
		t             api.WireTariff
		words, copies int
		want          int
	}{
		{chapter, 3, 2, 197},
		{chapter, 2, 1, 100},
		{chapter, 0, 1, 100},
		{chapter, 1, 1, 100},
		{chapter, 3, 1, 131},
		{chapter, 3, 3, 263},
		{chapter, 2, 2, 150},
		{chapter, 2, 3, 200},
		{chapter, 100, 1, 3138},
		{api.WireTariff{}, 100, 3, 0},
		{api.WireTariff{Open: 1}, 0, 2, 2},
		{api.WireTariff{Open: 1}, 0, 3, 3},
		{api.WireTariff{Open: 3, Free: 100, More: 10000}, 100, 3, 7},
		{api.WireTariff{Open: 10000, Free: 0, More: 10000}, 100, 3, 2020000},
		{api.WireTariff{Open: 10000, Free: 99, More: 10000}, 100, 2, 30000},
	} {
		if c, e := wire.Cost(x.t, x.words, x.copies); e != api.OK || c != x.want {
			t.Error(i, c, e)
		}
	}
}

// TestCostErrors is for P2.6.
func TestCostErrors(t *testing.T) {
	chapter := api.WireTariff{Open: 100, Free: 2, More: 31}
	for i, x := range []struct {
		t             api.WireTariff
		words, copies int
	}{
		{chapter, -1, 1},
		{chapter, 101, 1},
		{chapter, math.MinInt, 1},
		{chapter, math.MaxInt, 1},
		{chapter, 3, 0},
		{chapter, 3, -1},
		{chapter, 3, math.MinInt},
		// too many copies are a number out of range, not a list that is too long
		{chapter, 3, 4},
		{chapter, 3, 100},
		{chapter, 3, math.MaxInt},
		{api.WireTariff{}, 1, 4},
		{chapter, -1, 4},
		{api.WireTariff{Open: -1}, 3, 4},
		{api.WireTariff{Open: -1}, 3, 1},
		{api.WireTariff{Open: 10001}, 3, 1},
		{api.WireTariff{Free: -1}, 3, 1},
		{api.WireTariff{Free: 101}, 3, 1},
		{api.WireTariff{More: -1}, 3, 1},
		{api.WireTariff{More: 10001}, 3, 1},
	} {
		if c, e := wire.Cost(x.t, x.words, x.copies); e != api.ErrArg || c != 0 {
			t.Error(i, c, e)
		}
	}
}

// TestCostNeverLess is for P2.8: more words, or more copies, never cost less; and for P2.6, it adds up the price of each word.
func TestCostNeverLess(t *testing.T) {
	d := dice(26)
	for range 300 {
		tariff := api.WireTariff{Open: d.IntN(10001), Free: d.IntN(101), More: d.IntN(10001)}
		one := tariff.Open
		for words := range 101 {
			if words > tariff.Free {
				one += tariff.More
			}
			want, before := one, 0
			for copies := 1; copies <= 3; copies++ {
				c, e := wire.Cost(tariff, words, copies)
				if e != api.OK || c != want || c < before {
					t.Fatal(tariff, words, copies, c, e, want)
				}
				before = c
				want += one - one/2
			}
		}
	}
}

// net returns the chapter's net n.
func net() api.WireNet {
	return api.WireNet{Offices: 4, Lines: []api.WireLine{
		{From: 0, To: 1, Price: 5, Wrong: 1}, {From: 1, To: 3, Price: 5, Wrong: 1}, {From: 0, To: 2, Price: 4, Wrong: 2},
		{From: 2, To: 3, Price: 4, Wrong: 1}, {From: 0, To: 3, Price: 20, Wrong: 0},
	}}
}

// TestRouteExamples is for P2.6.
func TestRouteExamples(t *testing.T) {
	alike := api.WireNet{Offices: 3, Lines: []api.WireLine{
		{From: 2, To: 1, Price: 1}, {From: 0, To: 1, Price: 2}, {From: 1, To: 0, Price: 2}, {From: 2, To: 0, Price: 3}, {From: 0, To: 2, Price: 3, Wrong: 9},
	}}
	// the lines of the route that comes first in lexicographic order are 0 3, although 2 is less than 3
	square := api.WireNet{Offices: 4, Lines: []api.WireLine{{From: 0, To: 1}, {From: 2, To: 0}, {From: 2, To: 3}, {From: 3, To: 1}}}
	for i, x := range []struct {
		n                     api.WireNet
		from, to, words, most int
		lines                 []int
		price                 int
		e                     api.Errno
	}{
		{net(), 0, 3, 3, 3, []int{2, 3}, 24, api.OK},
		{net(), 0, 3, 3, 2, []int{0, 1}, 30, api.OK},
		{net(), 0, 3, 3, 1, []int{4}, 60, api.OK},
		{net(), 0, 3, 3, 0, []int{4}, 60, api.OK},
		{net(), 3, 0, 3, 100, []int{3, 2}, 24, api.OK},
		{net(), 3, 0, 100, 2, []int{1, 0}, 1000, api.OK},
		// for no words all lines cost the same
		{net(), 0, 3, 0, 100, []int{4}, 0, api.OK},
		{net(), 1, 2, 1, 2, []int{1, 3}, 9, api.OK},
		{net(), 1, 2, 1, 1, nil, 0, api.ErrNone},
		{net(), 1, 0, 1, 0, nil, 0, api.ErrNone},
		{net(), 2, 2, 50, 0, nil, 0, api.OK},
		{api.WireNet{Offices: 1}, 0, 0, 100, 0, nil, 0, api.OK},
		{api.WireNet{Offices: 6}, 0, 5, 1, 100, nil, 0, api.ErrNone},
		{alike, 0, 2, 7, 0, []int{3}, 21, api.OK},
		{alike, 0, 1, 7, 0, []int{1}, 14, api.OK},
		{square, 0, 3, 1, 0, []int{0, 3}, 0, api.OK},
		{square, 3, 0, 1, 0, []int{2, 1}, 0, api.OK},
	} {
		if l, p, e := wire.Route(x.n, x.from, x.to, x.words, x.most); e != x.e || p != x.price || !slices.Equal(l, x.lines) {
			t.Error(i, l, p, e)
		}
	}
}

// TestRouteErrors is for P2.6.
func TestRouteErrors(t *testing.T) {
	for i, x := range [][4]int{{-1, 3, 3, 3}, {4, 3, 3, 3}, {0, -1, 3, 3}, {0, 4, 3, 3}, {0, 3, -1, 3}, {0, 3, 101, 3}, {0, 3, 3, -1}, {0, 3, 3, 101}, {4, 4, 3, 3}, {0, 0, 101, 0}} {
		if l, p, e := wire.Route(net(), x[0], x[1], x[2], x[3]); e != api.ErrArg || p != 0 || len(l) > 0 {
			t.Error(i, l, p, e)
		}
	}
	for i, spoil := range []func(*api.WireNet){
		func(n *api.WireNet) { n.Offices = 0 },
		func(n *api.WireNet) { n.Offices = -1 },
		func(n *api.WireNet) { n.Offices = 7 },
		func(n *api.WireNet) { n.Offices = 3 },
		func(n *api.WireNet) { n.Lines = slices.Repeat(n.Lines[:1], 11) },
		func(n *api.WireNet) { n.Lines[4].From = -1 },
		func(n *api.WireNet) { n.Lines[4].From = 4 },
		func(n *api.WireNet) { n.Lines[4].To = -1 },
		func(n *api.WireNet) { n.Lines[4].To = 4 },
		func(n *api.WireNet) { n.Lines[4].To = 0 },
		func(n *api.WireNet) { n.Lines[0].Price = -1 },
		func(n *api.WireNet) { n.Lines[0].Price = 10001 },
		func(n *api.WireNet) { n.Lines[0].Wrong = -1 },
		func(n *api.WireNet) { n.Lines[0].Wrong = 10 },
	} {
		n := net()
		spoil(&n)
		if l, p, e := wire.Route(n, 0, 2, 3, 3); e != api.ErrArg || p != 0 || len(l) > 0 {
			t.Error(i, l, p, e)
		}
	}
	full := api.WireNet{Offices: 6, Lines: slices.Repeat([]api.WireLine{{From: 0, To: 5, Price: 10000, Wrong: 9}}, 10)}
	if l, p, e := wire.Route(full, 5, 0, 100, 9); e != api.OK || p != 1000000 || !slices.Equal(l, []int{0}) {
		t.Error(l, p, e)
	}
}

// walked returns the office to which some lines lead from another one, and what they cost and garble; it says no where they come to an office twice.
func walked(n api.WireNet, from int, lines []int) (int, int, int, bool) {
	been := map[int]bool{from: true}
	price, wrong := 0, 0
	for _, i := range lines {
		l := n.Lines[i]
		if from != l.From && from != l.To {
			return 0, 0, 0, false
		}
		from = l.From + l.To - from
		if been[from] {
			return 0, 0, 0, false
		}
		been[from] = true
		price += l.Price
		wrong += l.Wrong
	}
	return from, price, wrong, true
}

// TestRouteTried is for P2.6: no list of lines that leads there, and garbles no more, is better.
func TestRouteTried(t *testing.T) {
	d := dice(36)
	results := map[api.Errno]int{}
	for range 400 {
		n := api.WireNet{Offices: 2 + d.IntN(5)}
		for range d.IntN(8) {
			from := d.IntN(n.Offices)
			n.Lines = append(n.Lines, api.WireLine{From: from, To: (from + 1 + d.IntN(n.Offices-1)) % n.Offices, Price: d.IntN(4), Wrong: d.IntN(4)})
		}
		from, to, sending, most := d.IntN(n.Offices), d.IntN(n.Offices), d.IntN(4), d.IntN(8)
		lines, price, e := wire.Route(n, from, to, sending, most)
		results[e]++
		at, asked, wrong, sound := walked(n, from, lines)
		if e == api.OK && (!sound || at != to || asked*sending != price || wrong > most) {
			t.Fatal(n, from, to, sending, most, lines, price, e)
		}
		var try func(other []int)
		try = func(other []int) {
			at, asked, wrong, sound := walked(n, from, other)
			if !sound {
				return
			}
			if at == to && wrong <= most {
				better := asked*sending < price || asked*sending == price && len(other) < len(lines) ||
					asked*sending == price && len(other) == len(lines) && slices.Compare(other, lines) < 0
				if e != api.OK || better {
					t.Fatal(n, from, to, sending, most, lines, price, e, other)
				}
			}
			for i := range n.Lines {
				try(append(slices.Clone(other), i))
			}
		}
		try(nil)
	}
	if results[api.OK] < 100 || results[api.ErrNone] < 50 {
		t.Error("too few of a kind:", results)
	}
}
