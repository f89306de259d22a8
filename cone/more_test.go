package cone_test

import (
	"slices"
	"testing"

	"isobar/api"
	"isobar/cone"
)

// playedAt returns the first sight with some delays, or unseen.
func playedAt(t *testing.T, w api.ConeWatch, delays []int) int {
	minute, e := cone.Play(w, delays)
	if e != api.OK && e != api.ErrNone {
		t.Fatal(w, delays, e)
	}
	if e == api.ErrNone {
		return unseen
	}
	return minute
}

// seenAt returns when a storm can be seen first, and when it surely has been, each of which can be unseen.
func seenAt(t *testing.T, w api.ConeWatch) (int, int) {
	can, sure, e := cone.See(w)
	switch {
	case e == api.ErrNone:
		return unseen, unseen
	case e != api.OK:
		t.Fatal(w, e)
	case sure == -1:
		sure = unseen
	}
	return can, sure
}

// priceOf returns what the best urgent reports cost, or unseen if none suffice.
func priceOf(t *testing.T, w api.ConeWatch, minute int) int {
	_, cost, e := cone.Speed(w, minute)
	if e != api.OK && e != api.ErrNone {
		t.Fatal(w, e)
	}
	if e == api.ErrNone {
		return unseen
	}
	return cost
}

// change is a watch, with delays, that another one becomes, whose rule never sees a storm later.
type change func(w api.ConeWatch, delays []int) (api.ConeWatch, []int)

// hold returns a watch with a longer Hold.
func (d dicer) hold(w api.ConeWatch, delays []int) (api.ConeWatch, []int) {
	w.Hold = d.from(w.Hold, 2880)
	return w, delays
}

// sooner returns a watch whose reports come sooner.
func (d dicer) sooner(w api.ConeWatch, delays []int) (api.ConeWatch, []int) {
	w, delays = copied(w), slices.Clone(delays)
	for i := range w.Reports {
		if d.IntN(2) == 0 {
			less := d.from(0, w.Reports[i].Delay.Low)
			w.Reports[i].Delay.Low -= less
			w.Reports[i].Delay.High -= less
			delays[i] = d.from(w.Reports[i].Delay.Low, delays[i]-less)
		}
	}
	return w, delays
}

// another returns a watch with a report more, if there can be one, somewhere in the list.
func (d dicer) another(w api.ConeWatch, delays []int) (api.ConeWatch, []int) {
	if len(w.Reports) == api.ConeReports {
		return w, delays
	}
	r := w.Reports[d.IntN(len(w.Reports))]
	r.Station, r.Pressure = d.IntN(w.Stations), d.from(0, 99999)
	r.Taken = max(0, r.Taken-d.from(0, w.Window))
	at := d.from(0, len(w.Reports))
	w.Reports = slices.Insert(slices.Clone(w.Reports), at, r)
	return w, slices.Insert(slices.Clone(delays), at, d.of(r.Delay))
}

// milder returns a watch with a smaller Fall and smaller Diffs.
func (d dicer) milder(w api.ConeWatch, delays []int) (api.ConeWatch, []int) {
	w = copied(w)
	if d.IntN(2) == 0 {
		w.Fall = d.from(1, w.Fall)
	}
	for i := range w.Links {
		w.Links[i].Diff = d.from(1, w.Links[i].Diff)
	}
	return w, delays
}

// TestConsequences is for P5.6 and P0.5: reports that come sooner, a report more, or a longer Hold never make a storm seen later, and a greater Fall and greater Diffs never sooner; what is said of cones and of urgent reports follows.
func TestConsequences(t *testing.T) {
	d := dice(60)
	for n, to := range []change{d.hold, d.sooner, d.another, d.milder} {
		sooner := map[string]int{}
		for i := range 3000 {
			z := d.large()
			if i%2 == 0 {
				z = d.small()
			}
			w := d.watch(z)
			if len(w.Reports) == 0 {
				continue
			}
			delays := d.truth(w)
			more, moreDelays := to(w, delays)
			a, b := playedAt(t, w, delays), playedAt(t, more, moreDelays)
			can, sure := seenAt(t, w)
			moreCan, moreSure := seenAt(t, more)
			if b > a || moreCan > can || moreSure > sure {
				t.Fatal(n, w, more, delays, moreDelays, a, b, can, moreCan, sure, moreSure)
			}
			for what, is := range map[string]bool{"played": b < a, "can": moreCan < can, "sure": moreSure < sure} {
				if is {
					sooner[what]++
				}
			}
			minute := min(20000, max(0, min(sure, can+100)-d.from(0, 50)))
			if cost, less := priceOf(t, w, minute), priceOf(t, more, minute); less > cost {
				t.Fatal(n, w, more, minute, cost, less)
			}
		}
		if kinds := len(sooner); n > 0 && (kinds < 3 || sooner["played"] < 50) || sooner["sure"] < 50 {
			t.Error("too few are sooner:", n, sooner)
		}
	}
}

// rank returns the words of both watches for some minute.
func rank(t *testing.T, w, more api.ConeWatch, port, minute int) (api.ConeWord, api.ConeWord) {
	a, e := cone.Up(w, port, minute)
	b, f := cone.Up(more, port, minute)
	if e != api.OK || f != api.OK {
		t.Fatal(w, more, e, f)
	}
	return a, b
}

// TestConsequencesForCones is for P5.6 and P5.3: where reports come sooner, or with one more, a longer Hold, or a smaller Fall and Diffs, a cone that surely is up still is, and one that can be still can.
func TestConsequencesForCones(t *testing.T) {
	d := dice(61)
	greater := 0
	for i := range 3000 {
		w := d.stormy(d.large())
		delays := d.truth(w)
		more, _ := []change{d.hold, d.sooner, d.another, d.milder}[i%4](w, delays)
		can, _ := seenAt(t, more)
		if can == unseen {
			continue
		}
		port := d.IntN(len(w.Ports))
		minute := can + w.Ports[port].Order.Low + d.from(0, w.Hold)
		a, b := rank(t, w, more, port, minute)
		if b < a {
			t.Fatal(w, more, port, minute, a, b)
		}
		if b > a {
			greater++
		}
	}
	if greater < 100 {
		t.Error("too few are greater:", greater)
	}
}

// TestLaterIsCheaper is for P5.5: urgent reports that suffice for a minute suffice for all later ones, more of them suffice too, and the best ones never cost more.
func TestLaterIsCheaper(t *testing.T) {
	d := dice(62)
	cheaper := 0
	for range 1500 {
		w := d.stormy(d.large())
		can, _ := seenAt(t, w)
		if can == unseen {
			continue
		}
		minute := min(20000, can+d.from(0, 200))
		later := min(20000, minute+d.from(0, 500))
		all := subsets(len(w.Reports))
		urgent := all[d.IntN(len(all))]
		var other []int
		for n := range w.Reports {
			if slices.Contains(urgent, n) || d.IntN(2) == 0 {
				other = append(other, n)
			}
		}
		if is, _ := cone.Suffice(w, urgent, minute); is {
			still, e := cone.Suffice(w, other, later)
			if e != api.OK || !still {
				t.Fatal(w, urgent, other, minute, later, e)
			}
		}
		a, b := priceOf(t, w, minute), priceOf(t, w, later)
		if b > a {
			t.Fatal(w, minute, later, a, b)
		}
		if b < a {
			cheaper++
		}
	}
	if cheaper < 50 {
		t.Error("too few are cheaper:", cheaper)
	}
}

// TestReportsInAnotherOrder is for P5.1 to P5.5: reports in another order, and links the other way round, show the same.
func TestReportsInAnotherOrder(t *testing.T) {
	d := dice(63)
	for range 1000 {
		w := d.stormy(d.large())
		delays := d.truth(w)
		order := d.Perm(len(w.Reports))
		other, otherDelays := copied(w), make([]int, len(order))
		for to, from := range order {
			other.Reports[to], otherDelays[to] = w.Reports[from], delays[from]
		}
		for i, k := range other.Links {
			other.Links[i] = api.ConeLink{A: k.B, B: k.A, Diff: k.Diff}
		}
		slices.Reverse(other.Links)
		can, sure := seenAt(t, w)
		otherCan, otherSure := seenAt(t, other)
		if can != otherCan || sure != otherSure || playedAt(t, w, delays) != playedAt(t, other, otherDelays) {
			t.Fatal(w, other)
		}
		minute := min(20000, can+d.from(0, 3000))
		if a, b := rank(t, w, other, 0, minute); a != b {
			t.Fatal(w, other, minute, a, b)
		}
		if a, b := priceOf(t, w, minute), priceOf(t, other, minute); a != b {
			t.Fatal(w, other, minute, a, b)
		}
		was, _ := cone.Alarms(w)
		is, _ := cone.Alarms(other)
		if len(was) != len(is) {
			t.Fatal(w, other, was, is)
		}
		for _, a := range is {
			one, two := order[a.One], order[a.Other]
			if !slices.Contains(was, alarm(min(one, two), max(one, two))) {
				t.Fatal(w, other, was, is)
			}
		}
	}
}
