package watch_test

import (
	"math"
	"slices"
	"testing"

	"isobar/api"
	"isobar/watch"
)

// longest returns a log that has as many days, figures and odds as it can have.
func longest() api.WatchLog {
	return api.WatchLog{Base: 10, Odds: 1000000, Own: slices.Repeat([]int{9}, 18), Paper: slices.Repeat([]int{9, -1, 0}, 6)}
}

// spoiled returns the logs to which some changes make the longest one.
func spoiled(changes ...func(*api.WatchLog)) []api.WatchLog {
	var out []api.WatchLog
	for _, change := range changes {
		l := longest()
		change(&l)
		out = append(out, l)
	}
	return out
}

// wrongLogs returns logs that are not as defined.
func wrongLogs() []api.WatchLog {
	return append(spoiled(
		func(l *api.WatchLog) { l.Base = 11 },
		func(l *api.WatchLog) { l.Base = 9 },
		func(l *api.WatchLog) { l.Base = 0 },
		func(l *api.WatchLog) { l.Base = -10 },
		func(l *api.WatchLog) { l.Base, l.Own, l.Paper = 1, nil, nil },
		func(l *api.WatchLog) { l.Base, l.Own, l.Paper = 11, nil, nil },
		func(l *api.WatchLog) { l.Base, l.Own, l.Paper = math.MinInt, nil, nil },
		func(l *api.WatchLog) { l.Base, l.Own, l.Paper = 1, []int{-1}, []int{-1} },
		func(l *api.WatchLog) { l.Odds = 0 },
		func(l *api.WatchLog) { l.Odds = -1 },
		func(l *api.WatchLog) { l.Odds = 1000001 },
		func(l *api.WatchLog) { l.Odds = math.MaxInt },
		func(l *api.WatchLog) { l.Own = l.Own[:17] },
		func(l *api.WatchLog) { l.Paper = l.Paper[:17] },
		func(l *api.WatchLog) { l.Own = nil },
		func(l *api.WatchLog) { l.Paper = nil },
		func(l *api.WatchLog) { l.Own, l.Paper = append(l.Own, 0), append(l.Paper, 0) },
		func(l *api.WatchLog) { l.Own, l.Paper = append(l.Own, -1), append(l.Paper, -1) },
		func(l *api.WatchLog) { l.Own[0] = 10 },
		func(l *api.WatchLog) { l.Own[17] = 10 },
		func(l *api.WatchLog) { l.Own[17] = -2 },
		func(l *api.WatchLog) { l.Own[0] = math.MinInt },
		func(l *api.WatchLog) { l.Paper[0] = 10 },
		func(l *api.WatchLog) { l.Paper[17] = 10 },
		func(l *api.WatchLog) { l.Paper[17] = -2 },
		func(l *api.WatchLog) { l.Paper[17] = math.MaxInt },
		func(l *api.WatchLog) { l.Base, l.Own, l.Paper = 2, []int{2}, []int{1} },
		func(l *api.WatchLog) { l.Base, l.Own, l.Paper = 2, []int{1}, []int{2} },
		// a figure that is out of range is wrong on a day that does not count, too
		func(l *api.WatchLog) { l.Own[1] = 10 },
		func(l *api.WatchLog) { l.Own[1], l.Paper[1] = -1, 10 },
	), api.WatchLog{})
}

// fineLogs returns logs that are as defined, at the limits.
func fineLogs() []api.WatchLog {
	return append(spoiled(
		func(l *api.WatchLog) {},
		func(l *api.WatchLog) { l.Odds = 1 },
		func(l *api.WatchLog) { l.Own, l.Paper = nil, nil },
		func(l *api.WatchLog) { l.Own, l.Paper = nil, []int{} },
		func(l *api.WatchLog) { l.Base, l.Own, l.Paper = 2, nil, nil },
		func(l *api.WatchLog) { l.Base, l.Own, l.Paper = 2, []int{0, 1, -1}, []int{-1, 0, 1} },
		func(l *api.WatchLog) { l.Own[17], l.Paper[17] = -1, -1 },
	), logL(), logM())
}

// TestCheck is for P9.1: Check tells which logs are as defined; for others, Agree and Judge return ErrArg, and nothing else.
func TestCheck(t *testing.T) {
	for i, l := range fineLogs() {
		if e := watch.Check(l); e != api.OK {
			t.Error(i, e)
		}
		if _, _, _, e := watch.Agree(l); e != api.OK {
			t.Error(i, e)
		}
		if v, e := watch.Judge(l); v < open || v > copied || e != api.OK {
			t.Error(i, v, e)
		}
	}
	for i, l := range wrongLogs() {
		if e := watch.Check(l); e != api.ErrArg {
			t.Error(i, e)
		}
		if days, agreements, favourite, e := watch.Agree(l); days != 0 || agreements != 0 || favourite != 0 || e != api.ErrArg {
			t.Error(i, days, agreements, favourite, e)
		}
		if v, e := watch.Judge(l); v != 0 || e != api.ErrArg {
			t.Error(i, v, e)
		}
	}
}

// TestAgree is for P9.1: days that count, agreements and the favourite, in the chapter's examples and at the edges.
func TestAgree(t *testing.T) {
	for i, x := range []struct {
		l                           api.WatchLog
		days, agreements, favourite int
	}{
		{logL(), 6, 5, 2}, {logM(), 6, 0, 6}, {longest(), 12, 6, 12},
		{api.WatchLog{Base: 2, Odds: 1}, 0, 0, 0},
		// there is no day that counts: both figures are none, or one is
		{api.WatchLog{Base: 2, Odds: 1, Own: []int{-1, -1, 1, 1}, Paper: []int{-1, 1, -1, -1}}, 0, 0, 0},
		// 5 is the favourite among all figures, but not on the days that count
		{api.WatchLog{Base: 10, Odds: 9, Own: []int{5, 5, 5, 0, 0}, Paper: []int{-1, -1, 5, 1, 0}}, 3, 2, 2},
		// the paper's figures are no favourite
		{api.WatchLog{Base: 10, Odds: 9, Own: []int{1, 2, 3, 4}, Paper: []int{6, 6, 6, 6}}, 4, 0, 1},
		{api.WatchLog{Base: 10, Odds: 9, Own: []int{9, 0, 9, 0, 9}, Paper: []int{9, 9, 9, 9, 9}}, 5, 3, 3},
		{api.WatchLog{Base: 10, Odds: 9, Own: []int{0, 9, 0, 9, 0}, Paper: []int{0, 0, 0, 0, -1}}, 4, 2, 2},
	} {
		if days, agreements, favourite, e := watch.Agree(x.l); days != x.days || agreements != x.agreements || favourite != x.favourite || e != api.OK {
			t.Error(i, days, agreements, favourite, e)
		}
	}
}

// TestAgreeAny is for P9.1: logs of all bases and lengths, counted in another way.
func TestAgreeAny(t *testing.T) {
	d := dice(1)
	seen := map[int]int{}
	for range 20000 {
		l := d.log(d.from(2, 10), 18)
		wantDays, wantAgreements, wantFavourite := agreeOf(l)
		days, agreements, favourite, e := watch.Agree(l)
		if days != wantDays || agreements != wantAgreements || favourite != wantFavourite || e != api.OK {
			t.Fatal(l, days, agreements, favourite, e)
		}
		seen[days]++
	}
	for days := range 19 {
		if seen[days] < 100 {
			t.Error("too few logs with days:", days, seen[days])
		}
	}
}
