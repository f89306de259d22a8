package watch_test

import (
	"math"
	"slices"
	"testing"

	"isobar/api"
	"isobar/watch"
)

// largest returns a round that has as much of everything as it can have, and the greatest numbers.
func largest() api.WatchRound {
	return roundOf(400, span(60, 60), slices.Repeat([]int{10, 400}, 6)...)
}

// smallest returns a round that has as little of everything as it can have, and the least numbers.
func smallest() api.WatchRound { return roundOf(0, span(0, 0), 0, 0) }

// changed returns the rounds to which some changes make another one.
func changed(r api.WatchRound, changes ...func(*api.WatchRound)) []api.WatchRound {
	var out []api.WatchRound
	for _, change := range changes {
		other := copyOf(r)
		change(&other)
		out = append(out, other)
	}
	return out
}

// wrongRounds returns rounds that are not as defined.
func wrongRounds() []api.WatchRound {
	return append(changed(roundR(),
		func(r *api.WatchRound) { r.Start = -1 },
		func(r *api.WatchRound) { r.Start = 401 },
		func(r *api.WatchRound) { r.Start = math.MinInt },
		func(r *api.WatchRound) { r.Start = math.MaxInt },
		func(r *api.WatchRound) { r.Stations = nil },
		func(r *api.WatchRound) { r.Stations, r.Roads = nil, nil },
		func(r *api.WatchRound) { *r = roundOf(0, span(0, 0)) },
		func(r *api.WatchRound) { *r = roundOf(0, span(0, 0), slices.Repeat([]int{1, 1}, 7)...) },
		func(r *api.WatchRound) { r.Stations = r.Stations[:2] },
		func(r *api.WatchRound) { r.Stations = append(r.Stations, api.WatchStation{}) },
		func(r *api.WatchRound) { r.Stations[0].Stay = -1 },
		func(r *api.WatchRound) { r.Stations[2].Stay = 11 },
		func(r *api.WatchRound) { r.Stations[2].Stay = math.MinInt },
		func(r *api.WatchRound) { r.Stations[0].Due = -1 },
		func(r *api.WatchRound) { r.Stations[2].Due = 401 },
		func(r *api.WatchRound) { r.Stations[2].Due = math.MaxInt },
		func(r *api.WatchRound) { r.Roads = nil },
		func(r *api.WatchRound) { r.Roads = r.Roads[:3] },
		func(r *api.WatchRound) { r.Roads = append(r.Roads, r.Roads[0]) },
		func(r *api.WatchRound) { r.Roads[0] = nil },
		func(r *api.WatchRound) { r.Roads[3] = r.Roads[3][:3] },
		func(r *api.WatchRound) { r.Roads[3] = append(r.Roads[3], span(0, 0)) },
		func(r *api.WatchRound) { r.Roads[0][1] = span(-1, 3) },
		func(r *api.WatchRound) { r.Roads[0][1] = span(3, 2) },
		func(r *api.WatchRound) { r.Roads[1][0] = span(3, 61) },
		func(r *api.WatchRound) { r.Roads[3][2] = span(61, 61) },
		func(r *api.WatchRound) { r.Roads[3][2] = span(math.MinInt, math.MaxInt) },
		// the roads from a place to itself do not matter, but they are spans of the table
		func(r *api.WatchRound) { r.Roads[0][0] = span(-1, 0) },
		func(r *api.WatchRound) { r.Roads[2][2] = span(1, 0) },
		func(r *api.WatchRound) { r.Roads[3][3] = span(0, 61) },
	), api.WatchRound{})
}

// fineRounds returns rounds that are as defined, at the limits.
func fineRounds() []api.WatchRound {
	return append(changed(roundR(),
		func(r *api.WatchRound) { r.Start = 400 },
		func(r *api.WatchRound) { r.Stations[0].Stay, r.Stations[1].Stay = 0, 10 },
		func(r *api.WatchRound) { r.Stations[0].Due, r.Stations[1].Due = 0, 400 },
		func(r *api.WatchRound) { r.Roads[0][1], r.Roads[1][0] = span(0, 60), span(60, 60) },
		func(r *api.WatchRound) { r.Roads[0][0], r.Roads[2][2] = span(60, 60), span(0, 60) },
	), roundR(), largest(), smallest())
}

// TestCheckRound is for P9.4: CheckRound tells which rounds are as defined; for others, the functions return ErrArg, and nothing else.
func TestCheckRound(t *testing.T) {
	for i, r := range fineRounds() {
		order := []int{0}
		least, greatest := ends(r, order)
		if e := watch.CheckRound(r); e != api.OK {
			t.Error(i, e)
		}
		if _, _, e := watch.Visit(r, order, least); e != api.OK {
			t.Error(i, e)
		}
		if _, _, e := watch.Visit(r, order, greatest); e != api.OK {
			t.Error(i, e)
		}
		if _, _, e := watch.Known(r, order); e != api.OK {
			t.Error(i, e)
		}
		if _, e := watch.Sure(r, order); e != api.OK {
			t.Error(i, e)
		}
		if _, _, e := watch.Best(r); e != api.OK {
			t.Error(i, e)
		}
	}
	for i, r := range wrongRounds() {
		if e := watch.CheckRound(r); e != api.ErrArg {
			t.Error(i, e)
		}
		if comes, end, e := watch.Visit(r, nil, nil); len(comes) != 0 || end != 0 || e != api.ErrArg {
			t.Error(i, comes, end, e)
		}
		if comes, end, e := watch.Known(r, nil); len(comes) != 0 || end != span(0, 0) || e != api.ErrArg {
			t.Error(i, comes, end, e)
		}
		if is, e := watch.Sure(r, nil); is || e != api.ErrArg {
			t.Error(i, is, e)
		}
		if order, end, e := watch.Best(r); len(order) != 0 || end != 0 || e != api.ErrArg {
			t.Error(i, order, end, e)
		}
	}
}

// TestOrderErrors is for P9.4 and P9.5: an order that is not a list of different stations is ErrArg.
func TestOrderErrors(t *testing.T) {
	for i, order := range [][]int{{-1}, {3}, {0, 3}, {0, 1, 2, 3}, {0, 0}, {1, 0, 1}, {0, 1, 1}, {2, 1, 0, 2}, {0, 1, 2, 0, 1, 2}, {math.MinInt}, {math.MaxInt}} {
		legs := slices.Repeat([]int{2}, len(order))
		if comes, end, e := watch.Visit(roundOf(0, span(2, 2), 0, 0, 0, 0, 0, 0), order, legs); len(comes) != 0 || end != 0 || e != api.ErrArg {
			t.Error(i, comes, end, e)
		}
		if comes, end, e := watch.Known(roundR(), order); len(comes) != 0 || end != span(0, 0) || e != api.ErrArg {
			t.Error(i, comes, end, e)
		}
		if is, e := watch.Sure(roundR(), order); is || e != api.ErrArg {
			t.Error(i, is, e)
		}
	}
}

// TestVisit is for P9.4: the days on which the inspector comes to each station, and on which the round ends; legs that are not numbers of their roads are ErrArg.
func TestVisit(t *testing.T) {
	oneWay := roundR()
	oneWay.Roads[2][1], oneWay.Roads[1][2] = span(9, 9), span(4, 5)
	for i, x := range []struct {
		r           api.WatchRound
		order, legs []int
		want        []int
		end         int
		e           api.Errno
	}{
		{roundR(), []int{0, 1, 2}, []int{3, 2, 1}, []int{3, 6, 9}, 10, api.OK},
		{roundR(), []int{2, 1}, []int{4, 2}, []int{4, 7}, 9, api.OK},
		{roundR(), []int{1}, []int{3}, []int{3}, 5, api.OK},
		{roundR(), nil, nil, nil, 0, api.OK}, {roundR(), []int{}, nil, nil, 0, api.OK}, {largest(), nil, []int{}, nil, 400, api.OK},
		{largest(), []int{5, 0, 4, 1, 3, 2}, slices.Repeat([]int{60}, 6), []int{460, 530, 600, 670, 740, 810}, 820, api.OK},
		{smallest(), []int{0}, []int{0}, []int{0}, 0, api.OK},
		{oneWay, []int{0, 1}, []int{2, 5}, []int{2, 8}, 10, api.OK}, {oneWay, []int{1, 0}, []int{3, 9}, []int{3, 14}, 15, api.OK},
		{oneWay, []int{0, 1}, []int{2, 9}, nil, 0, api.ErrArg}, {oneWay, []int{1, 0}, []int{3, 5}, nil, 0, api.ErrArg},
		{roundR(), []int{0, 1, 2}, []int{3, 2}, nil, 0, api.ErrArg}, {roundR(), []int{0, 1, 2}, []int{3, 2, 1, 1}, nil, 0, api.ErrArg}, {roundR(), []int{0}, nil, nil, 0, api.ErrArg}, {roundR(), nil, []int{0}, nil, 0, api.ErrArg},
		{roundR(), []int{0, 1, 2}, []int{1, 2, 1}, nil, 0, api.ErrArg}, {roundR(), []int{0, 1, 2}, []int{4, 2, 1}, nil, 0, api.ErrArg}, {roundR(), []int{0, 1, 2}, []int{3, 2, 0}, nil, 0, api.ErrArg}, {roundR(), []int{0, 1, 2}, []int{3, 2, 3}, nil, 0, api.ErrArg}, {roundR(), []int{0, 1, 2}, []int{3, 3, 1}, nil, 0, api.ErrArg}, {roundR(), []int{0}, []int{math.MinInt}, nil, 0, api.ErrArg}, {roundR(), []int{0}, []int{math.MaxInt}, nil, 0, api.ErrArg},
	} {
		if comes, end, e := watch.Visit(x.r, x.order, x.legs); !slices.Equal(comes, x.want) || end != x.end || e != x.e {
			t.Error(i, comes, end, e)
		}
	}
}

// TestKnown is for P9.4: the chapter's example, and the edges.
func TestKnown(t *testing.T) {
	late := roundR()
	late.Start = 400
	for i, x := range []struct {
		r     api.WatchRound
		order []int
		want  []api.Span
		end   api.Span
	}{
		{roundR(), []int{0, 1, 2}, []api.Span{span(2, 3), span(5, 6), span(8, 10)}, span(9, 11)},
		{roundR(), []int{0, 2, 1}, []api.Span{span(2, 3), span(6, 8), span(8, 11)}, span(10, 13)},
		{roundR(), []int{2}, []api.Span{span(4, 6)}, span(5, 7)},
		{roundR(), nil, nil, span(0, 0)}, {late, []int{}, nil, span(400, 400)}, {late, []int{1}, []api.Span{span(403, 404)}, span(405, 406)},
		{roundOf(400, span(0, 60), slices.Repeat([]int{10, 400}, 6)...), []int{3, 5, 0, 1, 2, 4}, []api.Span{span(400, 460), span(410, 530), span(420, 600), span(430, 670), span(440, 740), span(450, 810)}, span(460, 820)},
	} {
		if comes, end, e := watch.Known(x.r, x.order); !slices.Equal(comes, x.want) || end != x.end || e != api.OK {
			t.Error(i, comes, end, e)
		}
	}
}

// TestTruths is for P9.4: whatever is true, the inspector comes within the bounds; all least days are true at once, and all greatest ones, and so are the days on which the round ends.
func TestTruths(t *testing.T) {
	d := dice(7)
	truthsSeen := 0
	for range 1000 {
		r := d.round(d.from(1, 4), d.among(3, 50), d.among(0, 2, 4), 20)
		for range 5 {
			order := d.order(r)
			comes, end, e := watch.Known(r, order)
			if len(comes) != len(order) || e != api.OK {
				t.Fatal(r, order, comes, e)
			}
			least, greatest := false, false
			for legs := range truths(r, order) {
				days, last, e := watch.Visit(r, order, legs)
				want, wantLast := visitOf(r, order, legs)
				if !slices.Equal(days, want) || last != wantLast || e != api.OK {
					t.Fatal(r, order, legs, days, last, e)
				}
				allLeast, allGreatest := last == end.Low, last == end.High
				for i, day := range days {
					if !has(comes[i], day) {
						t.Fatal(r, order, legs, comes)
					}
					allLeast = allLeast && day == comes[i].Low
					allGreatest = allGreatest && day == comes[i].High
				}
				if !has(end, last) {
					t.Fatal(r, order, legs, end)
				}
				least, greatest = least || allLeast, greatest || allGreatest
				truthsSeen++
			}
			if !least || !greatest {
				t.Fatal(r, order, comes, end, least, greatest)
			}
		}
	}
	if truthsSeen < 20000 {
		t.Error("too few truths:", truthsSeen)
	}
}

// TestKnownAny is for P9.4: rounds of all sizes, with the least legs, the greatest ones, and any others.
func TestKnownAny(t *testing.T) {
	d := dice(8)
	lengths := map[int]int{}
	for range 10000 {
		r := d.round(d.from(1, 6), 60, d.among(0, 5, 60), 30)
		order := d.order(r)
		least, greatest := ends(r, order)
		first, firstEnd := visitOf(r, order, least)
		last, lastEnd := visitOf(r, order, greatest)
		comes, end, e := watch.Known(r, order)
		if end != span(firstEnd, lastEnd) || e != api.OK {
			t.Fatal(r, order, end, e)
		}
		for i, s := range comes {
			if s != span(first[i], last[i]) {
				t.Fatal(r, order, comes)
			}
		}
		days, day, e := watch.Visit(r, order, d.legs(r, order))
		if !has(end, day) || len(days) != len(order) || len(comes) != len(order) || e != api.OK {
			t.Fatal(r, order, days, day, e)
		}
		for i, s := range comes {
			if !has(s, days[i]) {
				t.Fatal(r, order, days, comes)
			}
		}
		lengths[len(order)]++
	}
	for n := range 7 {
		if lengths[n] < 100 {
			t.Error("too few orders of some length:", n, lengths)
		}
	}
}
