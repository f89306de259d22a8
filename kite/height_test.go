package kite_test

import (
	"math"
	"testing"

	"isobar/api"
	"isobar/kite"
)

// exactLine returns the kite of which a truth is known.
func exactLine(wire, angle, sag int) api.KiteLine {
	return api.KiteLine{Wire: span(wire, wire), Angle: span(angle, angle), Sag: span(sag, sag)}
}

// TestClimb is for P7.1: the chapter's example, and the edges.
func TestClimb(t *testing.T) {
	if n, e := kite.Climb(kiteK(), 1010, 41, 30); n != 641 || e != api.OK {
		t.Error(n, e)
	}
	for _, x := range []struct{ wire, angle, sag, want int }{
		{1000, 40, 50, 610}, {1040, 42, 20, 681}, {1010, 41, 30, 641},
		{10000, 90, 0, 10000}, {10000, 90, 1000, 0}, {10000, 90, 999, 10}, {10000, 90, 1, 9990}, {10000, 0, 0, 0}, {0, 90, 0, 0}, {0, 0, 1000, 0},
		{999, 90, 1, 998}, {1, 90, 0, 1}, {1, 90, 1, 0}, {1, 89, 0, 0}, {3, 90, 500, 1}, {2, 30, 0, 1}, {3, 30, 0, 1}, {1, 30, 0, 0},
		{10000, 30, 0, 5000}, {9999, 30, 0, 4999}, {10000, 30, 500, 2500}, {10000, 1, 0, 174}, {10000, 4, 0, 697}, {10000, 86, 0, 9969},
	} {
		if n, e := kite.Climb(exactLine(x.wire, x.angle, x.sag), x.wire, x.angle, x.sag); n != x.want || e != api.OK {
			t.Error(x, n, e)
		}
	}
}

// TestSine is for P7.1: the sine of each angle. A wire of 10000 that does not sag shows it.
func TestSine(t *testing.T) {
	k := api.KiteLine{Wire: span(0, 10000), Angle: span(0, 90), Sag: span(0, 1000)}
	for angle, want := range sineOf() {
		if n, e := kite.Climb(k, 10000, angle, 0); n != want || e != api.OK {
			t.Error(angle, n, e)
		}
		if s, e := kite.Height(exactLine(10000, angle, 0)); s != span(want, want) || e != api.OK {
			t.Error(angle, s, e)
		}
	}
}

// TestHeight is for P7.1: the chapter's example, and the edges.
func TestHeight(t *testing.T) {
	for _, x := range []struct {
		k    api.KiteLine
		want api.Span
	}{
		{kiteK(), span(610, 681)},
		{exactLine(1010, 41, 30), span(641, 641)},
		{api.KiteLine{}, span(0, 0)},
		{api.KiteLine{Wire: span(0, 10000), Angle: span(0, 90), Sag: span(0, 1000)}, span(0, 10000)},
		{api.KiteLine{Wire: span(10000, 10000), Angle: span(0, 90), Sag: span(0, 0)}, span(0, 10000)},
		{api.KiteLine{Wire: span(10000, 10000), Angle: span(90, 90), Sag: span(0, 1000)}, span(0, 10000)},
		{api.KiteLine{Wire: span(500, 600), Angle: span(30, 30), Sag: span(0, 0)}, span(250, 300)},
		{api.KiteLine{Wire: span(1000, 1000), Angle: span(30, 60), Sag: span(0, 0)}, span(500, 866)},
		{api.KiteLine{Wire: span(1000, 1000), Angle: span(90, 90), Sag: span(100, 250)}, span(750, 900)},
	} {
		if s, e := kite.Height(x.k); s != x.want || e != api.OK {
			t.Error(x, s, e)
		}
	}
}

// TestHeightOfAll is for P7.1: in all truths of small kites the height is what the chapter says and lies within its bounds, and both ends are reached.
func TestHeightOfAll(t *testing.T) {
	d := dice(1)
	wide := 0
	for range 600 {
		k := d.line(8, 6, 8)
		want := nothing()
		for list := range lists(k.Wire, k.Angle, k.Sag) {
			n, e := kite.Climb(k, list[0], list[1], list[2])
			if n != climbOf(list[0], list[1], list[2]) || e != api.OK {
				t.Fatal(k, list, n, e)
			}
			want = wider(want, n)
		}
		if s, e := kite.Height(k); s != want || e != api.OK {
			t.Fatal(k, s, want, e)
		}
		if want.Low < want.High {
			wide++
		}
	}
	if wide < 300 {
		t.Error("too few are wide:", wide)
	}
}

// TestHeightOfMany is for P7.1: whatever is true of kites of all sizes, the height lies within its bounds, and truths are shown in which both ends are reached.
func TestHeightOfMany(t *testing.T) {
	d := dice(2)
	for range 3000 {
		k := d.line(d.among(10, 10000), d.among(5, 90), d.among(10, 1000))
		s, e := kite.Height(k)
		if e != api.OK {
			t.Fatal(k, e)
		}
		for range 10 {
			if n, e := kite.Climb(k, d.of(k.Wire), d.of(k.Angle), d.of(k.Sag)); !has(s, n) || e != api.OK {
				t.Fatal(k, s, n, e)
			}
		}
		low, _ := kite.Climb(k, k.Wire.Low, k.Angle.Low, k.Sag.High)
		high, _ := kite.Climb(k, k.Wire.High, k.Angle.High, k.Sag.Low)
		if s != span(low, high) {
			t.Fatal(k, s, low, high)
		}
	}
}

// wrongSpans returns what are no spans from low to high.
func wrongSpans(low, high int) []api.Span {
	return []api.Span{
		span(low-1, low-1), span(low-1, low), span(low-1, high), span(high, high+1), span(low, high+1), span(high+1, high+1),
		span(low+1, low), span(high, high-1), span(high, low),
		span(math.MinInt, math.MaxInt), span(math.MaxInt, math.MinInt), span(low, math.MaxInt), span(math.MinInt, high), span(math.MinInt, math.MinInt), span(math.MaxInt, math.MaxInt),
	}
}

// TestKiteErrors is for P7.1: kites, and numbers of them, that are not as defined.
func TestKiteErrors(t *testing.T) {
	refused := func(k api.KiteLine, wire, angle, sag int) {
		if n, e := kite.Climb(k, wire, angle, sag); n != 0 || e != api.ErrArg {
			t.Error(k, wire, angle, sag, n, e)
		}
	}
	wrong := func(k api.KiteLine) {
		if s, e := kite.Height(k); s != span(0, 0) || e != api.ErrArg {
			t.Error(k, s, e)
		}
		refused(k, 1010, 41, 30)
		refused(k, k.Wire.Low, k.Angle.Low, k.Sag.Low)
		refused(k, k.Wire.High, k.Angle.High, k.Sag.High)
	}
	for _, s := range wrongSpans(0, 10000) {
		k := kiteK()
		k.Wire = s
		wrong(k)
	}
	for _, s := range wrongSpans(0, 90) {
		k := kiteK()
		k.Angle = s
		wrong(k)
	}
	for _, s := range wrongSpans(0, 1000) {
		k := kiteK()
		k.Sag = s
		wrong(k)
	}
	for _, x := range [][3]int{
		{999, 41, 30}, {1041, 41, 30}, {1010, 39, 30}, {1010, 43, 30}, {1010, 41, 19}, {1010, 41, 51},
		{0, 41, 30}, {1010, 0, 30}, {1010, 41, 0}, {-1010, 41, 30}, {1010, -41, 30}, {1010, 41, -30},
		{math.MaxInt, 41, 30}, {1010, math.MaxInt, 30}, {1010, 41, math.MaxInt}, {math.MinInt, 41, 30}, {1010, math.MinInt, 30}, {1010, 41, math.MinInt},
	} {
		refused(kiteK(), x[0], x[1], x[2])
	}
	for _, x := range [][3]int{{1000, 40, 20}, {1040, 42, 50}, {1000, 42, 20}, {1040, 40, 50}} {
		if n, e := kite.Climb(kiteK(), x[0], x[1], x[2]); n != climbOf(x[0], x[1], x[2]) || e != api.OK {
			t.Error(x, n, e)
		}
	}
}
