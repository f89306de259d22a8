package glass_test

import (
	"math"
	"slices"
	"testing"

	"isobar/api"
	"isobar/glass"
)

// strange returns a number that is often far out of range.
func (d *dicer) strange() int {
	numbers := []int{math.MinInt, math.MinInt + 1, math.MinInt32, -2001, -721, -301, -1, 0, 1, 2, 100, 400, 401, 1440, 3000, 75000, 90001, math.MaxInt32, math.MaxInt - 1, math.MaxInt}
	return numbers[d.IntN(len(numbers))]
}

// spoilAny makes some of some numbers strange.
func (d *dicer) spoilAny(numbers ...*int) {
	for range d.IntN(3) {
		*numbers[d.IntN(len(numbers))] = d.strange()
	}
}

// strangeStation returns a station some numbers of which are strange.
func (d *dicer) strangeStation() api.GlassStation {
	s := anyStation(d.Rand, 15, 50)
	d.spoilAny(&s.Height.Low, &s.Height.High, &s.Gravity.Low, &s.Gravity.High, &s.Drift, &s.Read, &s.East, &s.Slip)
	for i := range s.Checks {
		if d.IntN(20) == 0 {
			d.spoilAny(&s.Checks[i].Day, &s.Checks[i].Index.Low, &s.Checks[i].Index.High)
		}
	}
	return s
}

// strangeReading returns a reading some numbers of which are strange.
func (d *dicer) strangeReading() api.GlassReading {
	r := anyReading(d.Rand, 100)
	clock := int(r.Clock)
	d.spoilAny(&r.Day, &r.Minute, &clock, &r.Mercury, &r.Attached.Low, &r.Attached.High, &r.Dry.Low, &r.Dry.High, &r.Wet.Low, &r.Wet.High)
	r.Clock = api.GlassClock(clock)
	return r
}

// answers is what all functions return for some arguments.
type answers struct {
	check     api.Errno
	index     api.Span
	one       int
	other     int
	due       int
	played    api.GlassWeather
	known     api.GlassKnown
	rise      api.Span
	printed   string
	errors    [8]api.Errno
	whenFirst api.Span
	whenCount int
}

// ask calls all functions.
func ask(s api.GlassStation, a, b api.GlassReading, x api.GlassTruth, n, m int) answers {
	var out answers
	out.check = glass.Check(s)
	out.index, out.errors[0] = glass.Index(s, n)
	out.one, out.other, out.errors[1] = glass.Clash(s)
	out.due, out.errors[2] = glass.Due(s, n, m)
	out.played, out.errors[3] = glass.Play(s, a, x)
	out.known, out.errors[4] = glass.Know(s, a)
	out.rise, out.errors[5] = glass.Rise(s, a, b)
	when, e := glass.When(s, a)
	out.errors[6], out.whenCount = e, len(when)
	if len(when) > 0 {
		out.whenFirst = when[0]
	}
	out.printed, out.errors[7] = glass.Print([]api.GlassReading{a, b})
	return out
}

// TestAnyArguments is for P0.1 and the rules R2, R4 and R8: whatever the arguments, nothing panics, nothing is changed, and with an error nothing else is returned.
func TestAnyArguments(t *testing.T) {
	d := dicer{dice(1)}
	for range 20000 {
		s, a, b := d.strangeStation(), d.strangeReading(), d.strangeReading()
		x := anyTruth(&d, api.GlassStation{}, firstReading(), span(0, 40))
		d.spoilAny(&x.Index, &x.Error, &x.Gravity, &x.Height, &x.Attached, &x.Dry, &x.Wet)
		n, m := d.strange(), d.strange()
		before := copied(s)
		got := ask(s, a, b, x, n, m)
		if !equal(s, before) {
			t.Fatal("a station was changed:", s, before)
		}
		if again := ask(s, a, b, x, n, m); again != got {
			t.Fatal(s, a, b, x, n, m, got, again)
		}
		for i, zero := range []bool{
			got.index == (api.Span{}), got.one == 0 && got.other == 0, got.due == 0, got.played == (api.GlassWeather{}),
			got.known == (api.GlassKnown{}), got.rise == (api.Span{}), got.whenCount == 0, got.printed == "",
		} {
			if got.errors[i] != api.OK && !zero {
				t.Fatal(i, s, a, b, x, n, m, got)
			}
			if got.check != api.OK && i < 7 && got.errors[i] != api.ErrArg {
				t.Fatal(i, s, got)
			}
		}
	}
}

// TestNoSharing is for the rules R3 and R4.
func TestNoSharing(t *testing.T) {
	s, r := station(), laterReading()
	one, _ := glass.When(s, r)
	other, _ := glass.When(s, r)
	one[0] = span(1, 1)
	if other[0] != span(36448, 36452) {
		t.Error(other)
	}
	l := []api.GlassReading{firstReading(), r}
	text, _ := glass.Print(l)
	first, _ := glass.Read(text)
	second, _ := glass.Read(text)
	first[0] = api.GlassReading{}
	if !slices.Equal(second, l) || l[0] != firstReading() {
		t.Error(second, l)
	}
	bare, empty := api.GlassStation{Drift: 1}, api.GlassStation{Drift: 1, Checks: []api.GlassCheck{}}
	if a, b := ask(bare, r, r, api.GlassTruth{}, 3, 4), ask(empty, r, r, api.GlassTruth{}, 3, 4); a != b {
		t.Error(a, b)
	}
}

// FuzzRead is for P0.1 and P1.7: no text makes Read panic, and what it reads is written the same.
func FuzzRead(f *testing.F) {
	for _, text := range []string{"", "end 00\n", chapterText, closed(zeroRow), "end", "0 0 r", "\xff\xfe\n", "0 0 r 7500\xf0 0 0 0 0 0 0\nend 00\n", "-\n", " \n"} {
		f.Add(text)
	}
	f.Fuzz(func(t *testing.T, text string) {
		l, e := glass.Read(text)
		if e != api.OK && len(l) > 0 {
			t.Fatal(l, e)
		}
		if e != api.OK {
			return
		}
		if again, e := glass.Print(l); e != api.OK || again != text {
			t.Fatal(l, again, e)
		}
	})
}
