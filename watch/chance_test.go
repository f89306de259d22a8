package watch_test

import (
	"math"
	"testing"

	"isobar/api"
	"isobar/watch"
)

// TestChance is for P9.2: the chapter's examples, and the edges.
func TestChance(t *testing.T) {
	for i, x := range []struct{ base, days, least, want int }{
		{10, 6, 5, 55}, {10, 6, 4, 1270}, {10, 6, 0, 1000000}, {10, 6, 6, 1}, {10, 6, 7, 0}, {10, 6, 19, 0},
		{2, 0, 0, 1}, {2, 0, 1, 0}, {2, 0, 19, 0}, {10, 0, 0, 1}, {10, 1, 0, 10}, {10, 1, 1, 1}, {10, 1, 2, 0}, {2, 2, 1, 3},
		{10, 18, 0, 1000000000000000000}, {10, 18, 1, 1000000000000000000 - 150094635296999121}, {10, 18, 18, 1}, {10, 18, 17, 163}, {10, 18, 19, 0},
		{2, 18, 9, 131072 + 24310},
	} {
		if n, e := watch.Chance(x.base, x.days, x.least); n != x.want || e != api.OK {
			t.Error(i, n, e)
		}
	}
}

// TestFavour is for P9.2: the chapter's examples, and the edges.
func TestFavour(t *testing.T) {
	for i, x := range []struct{ base, days, least, want int }{
		{10, 6, 6, 10}, {10, 6, 5, 550}, {10, 6, 3, 157600}, {10, 6, 0, 1000000}, {10, 6, 1, 1000000}, {10, 6, 2, 1000000 - 151200}, {10, 6, 7, 0}, {10, 6, 19, 0},
		{2, 0, 0, 1}, {2, 0, 1, 0}, {2, 0, 19, 0}, {10, 0, 0, 1}, {10, 1, 0, 10}, {10, 1, 1, 10}, {10, 1, 2, 0},
		// of three figures, two are the same if there are two only
		{2, 3, 2, 8}, {2, 3, 3, 2}, {2, 4, 2, 16}, {2, 4, 3, 10},
		{10, 18, 0, 1000000000000000000}, {10, 18, 2, 1000000000000000000}, {10, 18, 18, 10}, {10, 18, 17, 10 + 18*9*10}, {10, 18, 19, 0},
		{10, 10, 2, 10000000000 - 3628800}, {10, 11, 2, 100000000000},
	} {
		if n, e := watch.Favour(x.base, x.days, x.least); n != x.want || e != api.OK {
			t.Error(i, n, e)
		}
	}
}

// TestChanceErrors is for P9.2: a base, a number of days or a least number that is not as defined is ErrArg, and nothing else is.
func TestChanceErrors(t *testing.T) {
	numbers := []int{math.MinInt, -10, -1, 0, 1, 2, 3, 9, 10, 11, 17, 18, 19, 20, 21, math.MaxInt}
	for _, base := range numbers {
		for _, days := range numbers {
			for _, least := range numbers {
				want := api.OK
				if base < 2 || base > 10 || days < 0 || days > 18 || least < 0 || least > 19 {
					want = api.ErrArg
				}
				n, e := watch.Chance(base, days, least)
				m, f := watch.Favour(base, days, least)
				if e != want || f != want || want != api.OK && (n != 0 || m != 0) {
					t.Error(base, days, least, n, e, m, f)
				}
			}
		}
	}
}

// TestCounted is for P9.2: just as many lists as if all are counted, for all lists that there are not too many of, and whichever the one and the same list is.
func TestCounted(t *testing.T) {
	d := dice(2)
	cases := 0
	for base := 2; base <= 10; base++ {
		for days := 0; days <= 18 && allOf(base, days) <= 70000; days++ {
			same := make([]int, days)
			for i := range same {
				same[i] = d.IntN(base)
			}
			var agree, favour [20]int
			for list := range lists(base, days) {
				for least := range alike(list, same) + 1 {
					agree[least]++
				}
				for least := range most(list) + 1 {
					favour[least]++
				}
			}
			for least := range 20 {
				if n, e := watch.Chance(base, days, least); n != agree[least] || e != api.OK {
					t.Fatal(base, days, least, n, e, agree[least])
				}
				if n, e := watch.Favour(base, days, least); n != favour[least] || e != api.OK {
					t.Fatal(base, days, least, n, e, favour[least])
				}
			}
			cases++
		}
	}
	if cases < 60 {
		t.Error("too few cases:", cases)
	}
}

// TestAllChances is for P9.2: all bases, days and least numbers, counted in other ways.
func TestAllChances(t *testing.T) {
	for base := 2; base <= 10; base++ {
		for days := range 19 {
			for least := range 20 {
				if n, e := watch.Chance(base, days, least); n != chanceOf(base, days, least) || e != api.OK {
					t.Fatal(base, days, least, n, e)
				}
				if n, e := watch.Favour(base, days, least); n != favourOf(base, days, least) || e != api.OK {
					t.Fatal(base, days, least, n, e)
				}
			}
		}
	}
}
