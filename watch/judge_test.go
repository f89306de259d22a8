package watch_test

import (
	"math"
	"slices"
	"testing"

	"isobar/api"
	"isobar/watch"
)

// oddsTried is odds that are tried.
var oddsTried = []int{1, 2, 3, 5, 10, 99, 100, 101, 900, 1000, 65536, 999999, 1000000}

// TestNeed is for P9.3: the chapter's examples, and the edges.
func TestNeed(t *testing.T) {
	for i, x := range []struct{ base, days, odds, agreements, favourite int }{
		{10, 6, 1000, 5, 6}, {10, 6, 900, 5, 5}, {10, 2, 1000, 3, 3},
		// 550 lists of a million are at most one in two times 909, and no more
		{10, 6, 909, 5, 5}, {10, 6, 910, 5, 6},
		{10, 6, 50000, 6, 6}, {10, 6, 50001, 6, 7}, {10, 6, 500000, 6, 7}, {10, 6, 500001, 7, 7},
		{2, 0, 1, 1, 1}, {10, 0, 1000000, 1, 1}, {2, 1, 1, 1, 2}, {2, 1, 2, 2, 2}, {2, 2, 1, 2, 2}, {2, 2, 2, 2, 3}, {2, 2, 3, 3, 3},
		{10, 18, 1, 3, 5}, {10, 18, 1000000, 11, 12}, {2, 18, 1000000, 19, 19}, {2, 18, 131072, 18, 19}, {2, 18, 131073, 19, 19}, {2, 18, 65536, 18, 18},
	} {
		if agreements, favourite, e := watch.Need(x.base, x.days, x.odds); agreements != x.agreements || favourite != x.favourite || e != api.OK {
			t.Error(i, agreements, favourite, e)
		}
	}
}

// TestNeedErrors is for P9.3: a base, a number of days or odds that are not as defined are ErrArg, and nothing else is.
func TestNeedErrors(t *testing.T) {
	for _, base := range []int{math.MinInt, -2, 0, 1, 2, 10, 11, math.MaxInt} {
		for _, days := range []int{math.MinInt, -1, 0, 1, 18, 19, math.MaxInt} {
			for _, odds := range []int{math.MinInt, -1, 0, 1, 2, 1000000, 1000001, math.MaxInt} {
				want := api.OK
				if base < 2 || base > 10 || days < 0 || days > 18 || odds < 1 || odds > 1000000 {
					want = api.ErrArg
				}
				agreements, favourite, e := watch.Need(base, days, odds)
				if e != want || want != api.OK && (agreements != 0 || favourite != 0) {
					t.Error(base, days, odds, agreements, favourite, e)
				}
			}
		}
	}
}

// TestNeedAll is for P9.3: for all bases and days, the chance of what convicts is excluded, and that of one less is not; one for each of two times the odds is the most that can be.
func TestNeedAll(t *testing.T) {
	d := dice(3)
	for base := 2; base <= 10; base++ {
		for days := range 19 {
			for _, odds := range append(slices.Clone(oddsTried), d.from(1, 100), d.from(1, 1000000)) {
				all := allOf(base, days)
				agreements, favourite, e := watch.Need(base, days, odds)
				if agreements < 1 || agreements > days+1 || favourite < 1 || favourite > days+1 || e != api.OK {
					t.Fatal(base, days, odds, agreements, favourite, e)
				}
				if n := chanceOf(base, days, agreements); n > all/(2*odds) {
					t.Fatal(base, days, odds, agreements, n)
				}
				if n := favourOf(base, days, favourite); n > all/(2*odds) {
					t.Fatal(base, days, odds, favourite, n)
				}
				if n := chanceOf(base, days, agreements-1); n <= all/(2*odds) {
					t.Fatal(base, days, odds, agreements, n)
				}
				if n := favourOf(base, days, favourite-1); n <= all/(2*odds) {
					t.Fatal(base, days, odds, favourite, n)
				}
			}
		}
	}
}

// with returns a log with another figure of the observer on a day.
func with(l api.WatchLog, day, own int) api.WatchLog {
	l = copyOfLog(l)
	l.Own[day] = own
	return l
}

// odds returns a log with other odds.
func odds(l api.WatchLog, odds int) api.WatchLog {
	l.Odds = odds
	return l
}

// TestJudge is for P9.3: the chapter's examples, and the edges.
func TestJudge(t *testing.T) {
	sevens := slices.Repeat([]int{7}, 18)
	for i, x := range []struct {
		l    api.WatchLog
		want api.WatchVerdict
	}{
		{logL(), copied}, {logM(), invented}, {with(logM(), 5, 1), open},
		// one agreement less, or greater odds
		{with(logL(), 0, 0), open}, {odds(logL(), 9090), copied}, {odds(logL(), 9091), open}, {odds(with(logL(), 5, 2), 500000), copied}, {odds(with(logL(), 5, 2), 500001), open},
		{odds(logM(), 50000), invented}, {odds(logM(), 50001), open}, {odds(with(logM(), 5, 1), 909), invented}, {odds(with(logM(), 5, 1), 910), open},
		// both tests convict, or only the first one with great odds
		{api.WatchLog{Base: 10, Odds: 1000, Own: sevens, Paper: sevens}, copied}, {api.WatchLog{Base: 10, Odds: 1000000, Own: sevens[:6], Paper: sevens[:6]}, open}, {api.WatchLog{Base: 10, Odds: 400000, Own: sevens[:6], Paper: sevens[:6]}, copied},
		// a paper may have favourites
		{api.WatchLog{Base: 10, Odds: 1000, Own: logL().Own, Paper: sevens[:6]}, open},
		// no day counts, or there are too few
		{api.WatchLog{Base: 2, Odds: 1}, open}, {api.WatchLog{Base: 10, Odds: 1, Own: []int{-1, 3}, Paper: []int{3, -1}}, open}, {api.WatchLog{Base: 10, Odds: 1000, Own: []int{3, 3}, Paper: []int{3, 3}}, open},
		{api.WatchLog{Base: 2, Odds: 1, Own: []int{1}, Paper: []int{1}}, copied}, {api.WatchLog{Base: 2, Odds: 1, Own: []int{1}, Paper: []int{0}}, open}, {api.WatchLog{Base: 2, Odds: 2, Own: []int{1}, Paper: []int{1}}, open},
		{api.WatchLog{Base: 2, Odds: 1, Own: []int{1, 1}, Paper: []int{1, 0}}, invented}, {api.WatchLog{Base: 2, Odds: 1, Own: []int{1, 1}, Paper: []int{0, 0}}, invented}, {api.WatchLog{Base: 2, Odds: 1, Own: []int{0, 1}, Paper: []int{0, 1}}, copied}, {api.WatchLog{Base: 2, Odds: 1, Own: []int{0, 1}, Paper: []int{0, 0}}, open},
	} {
		if v, e := watch.Judge(x.l); v != x.want || e != api.OK {
			t.Error(i, v, e)
		}
	}
}

// TestJudgeAny is for P9.3: logs of all bases and lengths have the verdict of their chances, and that of what convicts.
func TestJudgeAny(t *testing.T) {
	d := dice(4)
	verdicts := map[api.WatchVerdict]int{}
	for range 6000 {
		l := d.log(d.from(2, 10), 18)
		v, e := watch.Judge(l)
		if v != verdictOf(l) || e != api.OK {
			t.Fatal(l, v, e)
		}
		days, agreements, favourite := agreeOf(l)
		need, needed, _ := watch.Need(l.Base, days, l.Odds)
		if (v == copied) != (agreements >= need) || (v == invented) != (agreements < need && favourite >= needed) {
			t.Fatal(l, v, need, needed)
		}
		verdicts[v]++
	}
	if verdicts[open] < 600 || verdicts[invented] < 600 || verdicts[copied] < 600 {
		t.Error("too few of some verdicts:", verdicts)
	}
}

// convicted returns how many of all lists of a base are convicted as they are those of an observer, with some paper and odds.
func convicted(t *testing.T, base, odds int, paper []int) int {
	n := 0
	for own := range lists(base, len(paper)) {
		v, e := watch.Judge(api.WatchLog{Base: base, Odds: odds, Own: own, Paper: paper})
		if e != api.OK {
			t.Fatal(base, odds, own, paper, e)
		}
		if v != open {
			n++
		}
	}
	return n
}

// TestHonest is for P9.3: whatever the paper prints, also where it prints nothing, of all lists that an honest observer can have no more are convicted than one for each of the odds.
func TestHonest(t *testing.T) {
	d := dice(5)
	some := 0
	for base := 2; base <= 10; base++ {
		for days := 0; days <= 10 && allOf(base, days) <= 1100; days++ {
			for range 6 {
				paper := make([]int, days)
				favourite := d.among(0, 50, 100)
				for i := range paper {
					paper[i] = d.IntN(base)
					if d.IntN(100) < favourite {
						paper[i] = 0
					}
					if d.IntN(10) == 0 {
						paper[i] = -1
					}
				}
				odds := d.among(1, 2, 3, 5, 10, 100, d.from(1, 1000))
				n := convicted(t, base, odds, paper)
				if n*odds > allOf(base, days) {
					t.Fatal(base, odds, paper, n)
				}
				if n > 0 {
					some++
				}
			}
		}
	}
	if some < 50 {
		t.Error("too few papers with which somebody is convicted:", some)
	}
}

// TestHonestMany is for P9.3: of all lists of any number of days, no more than one for each of the odds have as many agreements, or as many days of a favourite, as convict.
func TestHonestMany(t *testing.T) {
	for base := 2; base <= 10; base++ {
		for days := range 19 {
			for _, odds := range oddsTried {
				agreements, favourite, _ := watch.Need(base, days, odds)
				n, _ := watch.Chance(base, days, agreements)
				m, _ := watch.Favour(base, days, favourite)
				if n+m > allOf(base, days)/odds {
					t.Fatal(base, days, odds, n, m)
				}
			}
		}
	}
}

// TestGreater is for P9.3: a greater number is excluded wherever a lesser one is. So an observer with a further agreement is convicted as before, and one with a further day of the favourite.
func TestGreater(t *testing.T) {
	for base := 2; base <= 10; base++ {
		for days := range 19 {
			for least := range 19 {
				n, _ := watch.Chance(base, days, least)
				less, _ := watch.Chance(base, days, least+1)
				m, _ := watch.Favour(base, days, least)
				fewer, _ := watch.Favour(base, days, least+1)
				if less > n || fewer > m {
					t.Fatal(base, days, least, n, less, m, fewer)
				}
			}
		}
	}
	d := dice(6)
	kept := map[api.WatchVerdict]int{}
	for range 20000 {
		l := d.log(d.from(2, 10), 18)
		before, _ := watch.Judge(l)
		days, agreements, favourite := agreeOf(l)
		if days == agreements {
			continue
		}
		further := copyOfLog(l)
		for i, own := range l.Own {
			if own >= 0 && l.Paper[i] >= 0 && own != l.Paper[i] {
				further.Own[i] = l.Paper[i]
				break
			}
		}
		_, _, after := agreeOf(further)
		v, e := watch.Judge(further)
		if e != api.OK || before == copied && v != copied || before == invented && after >= favourite && v == open {
			t.Fatal(l, before, v, e)
		}
		if after >= favourite {
			kept[before]++
		}
	}
	if kept[open] < 1000 || kept[invented] < 200 || kept[copied] < 1000 {
		t.Error("too few of some verdicts:", kept)
	}
}
