package glass_test

import (
	"math/rand/v2"
	"slices"

	"isobar/api"
)

// span returns a span.
func span(low, high int) api.Span { return api.Span{Low: low, High: high} }

// check returns a comparison.
func check(day, low, high int) api.GlassCheck {
	return api.GlassCheck{Day: day, Index: span(low, high)}
}

// station returns the chapter's station s, with some comparisons more.
func station(more ...api.GlassCheck) api.GlassStation {
	return api.GlassStation{
		Height: span(100, 110), Gravity: span(-100, 100), Drift: 1, Read: 5, East: 30, Slip: 2,
		Checks: append([]api.GlassCheck{check(10, 20, 30), check(30, 25, 50)}, more...),
	}
}

// torn returns a station whose comparisons do not agree.
func torn() api.GlassStation { return station(check(30, 51, 60)) }

// firstReading returns the chapter's reading r.
func firstReading() api.GlassReading {
	return api.GlassReading{
		Day: 20, Minute: 480, Clock: api.GlassSun, Mercury: 75050,
		Attached: span(200, 210), Dry: span(150, 152), Wet: span(120, 121),
	}
}

// laterReading returns the chapter's reading q.
func laterReading() api.GlassReading {
	q := firstReading()
	q.Day, q.Mercury, q.Clock = 25, 74950, api.GlassEither
	return q
}

// chapterTruth returns the truth of the chapter's example of Play.
func chapterTruth() api.GlassTruth {
	return api.GlassTruth{Index: 20, Error: 1, Height: 105, Attached: 205, Dry: 151, Wet: 120}
}

// dice returns numbers that look like chance but are the same in each run.
func dice(seed uint64) *rand.Rand { return rand.New(rand.NewPCG(seed, 1)) }

// from returns a number from low to high.
func from(d *rand.Rand, low, high int) int { return low + d.IntN(high-low+1) }

// part returns a span from low to high that is wide at most.
func part(d *rand.Rand, low, high, wide int) api.Span {
	a := from(d, low, high)
	return span(a, min(high, a+d.IntN(wide+1)))
}

// anyStation returns a station with some comparisons, which often agree; its spans are wide at most.
func anyStation(d *rand.Rand, checks, wide int) api.GlassStation {
	s := api.GlassStation{
		Height: part(d, 0, 3000, wide), Gravity: part(d, -3000, 3000, wide),
		Drift: from(d, 0, 3), Read: d.IntN(min(wide, 200) + 1), East: from(d, -720, 720), Slip: from(d, 0, 60),
	}
	if d.IntN(4) == 0 {
		s.Drift = from(d, 0, 100)
	}
	index := from(d, -2000, 2000)
	days := make([]int, 401)
	for day := range days {
		days[day] = index
		index = max(-2000, min(2000, index+from(d, -s.Drift, s.Drift)))
	}
	for range d.IntN(checks + 1) {
		day := from(d, 0, 400)
		low := max(-2000, days[day]-d.IntN(wide+1))
		high := min(2000, days[day]+d.IntN(wide+1))
		s.Checks = append(s.Checks, check(day, low, high))
	}
	return s
}

// spoil makes one of a station's comparisons doubtful, if it has any.
func spoil(d *rand.Rand, s *api.GlassStation) {
	if len(s.Checks) > 0 {
		i := d.IntN(len(s.Checks))
		s.Checks[i].Index = part(d, max(-2000, s.Checks[i].Index.Low-50), 2000, 20)
	}
}

// anyReading returns a reading whose spans are wide at most.
func anyReading(d *rand.Rand, wide int) api.GlassReading {
	return api.GlassReading{
		Day: from(d, 0, 400), Minute: from(d, 0, 1439), Clock: api.GlassClock(from(d, 1, 3)), Mercury: from(d, 40000, 90000),
		Attached: part(d, -300, 500, wide), Dry: part(d, -300, 500, wide), Wet: part(d, -300, 500, wide),
	}
}

// copied returns a station that shares no memory with another one.
func copied(s api.GlassStation) api.GlassStation {
	s.Checks = slices.Clone(s.Checks)
	return s
}

// equal reports whether two stations are equal.
func equal(a, b api.GlassStation) bool {
	return a.Height == b.Height && a.Gravity == b.Gravity && a.Drift == b.Drift && a.Read == b.Read &&
		a.East == b.East && a.Slip == b.Slip && slices.Equal(a.Checks, b.Checks)
}

// holds reports whether a span lies within another one.
func holds(outer, inner api.Span) bool {
	return outer.Low <= inner.Low && inner.Low <= inner.High && inner.High <= outer.High
}

// wrongStations returns stations that are each wrong in one way.
func wrongStations() []api.GlassStation {
	var out []api.GlassStation
	for _, spoil := range []func(*api.GlassStation){
		func(s *api.GlassStation) { s.Height = span(-1, 110) },
		func(s *api.GlassStation) { s.Height = span(100, 3001) },
		func(s *api.GlassStation) { s.Height = span(110, 109) },
		func(s *api.GlassStation) { s.Gravity = span(-3001, 0) },
		func(s *api.GlassStation) { s.Gravity = span(0, 3001) },
		func(s *api.GlassStation) { s.Gravity = span(1, 0) },
		func(s *api.GlassStation) { s.Drift = -1 },
		func(s *api.GlassStation) { s.Drift = 101 },
		func(s *api.GlassStation) { s.Read = -1 },
		func(s *api.GlassStation) { s.Read = 201 },
		func(s *api.GlassStation) { s.East = -721 },
		func(s *api.GlassStation) { s.East = 721 },
		func(s *api.GlassStation) { s.Slip = -1 },
		func(s *api.GlassStation) { s.Slip = 61 },
		func(s *api.GlassStation) { s.Checks[0].Day = -1 },
		func(s *api.GlassStation) { s.Checks[1].Day = 401 },
		func(s *api.GlassStation) { s.Checks[0].Index = span(-2001, 30) },
		func(s *api.GlassStation) { s.Checks[1].Index = span(25, 2001) },
		func(s *api.GlassStation) { s.Checks[1].Index = span(26, 25) },
		func(s *api.GlassStation) { s.Checks = slices.Repeat(s.Checks[:1], 13) },
	} {
		s := station()
		spoil(&s)
		out = append(out, s)
	}
	return out
}

// wrongReadings returns readings that are each wrong in one way.
func wrongReadings() []api.GlassReading {
	var out []api.GlassReading
	for _, spoil := range []func(*api.GlassReading){
		func(r *api.GlassReading) { r.Day = -1 },
		func(r *api.GlassReading) { r.Day = 401 },
		func(r *api.GlassReading) { r.Minute = -1 },
		func(r *api.GlassReading) { r.Minute = 1440 },
		func(r *api.GlassReading) { r.Clock = 0 },
		func(r *api.GlassReading) { r.Clock = 4 },
		func(r *api.GlassReading) { r.Clock = -1 },
		func(r *api.GlassReading) { r.Mercury = 39999 },
		func(r *api.GlassReading) { r.Mercury = 90001 },
		func(r *api.GlassReading) { r.Attached.Low = -301 },
		func(r *api.GlassReading) { r.Attached.High = 501 },
		func(r *api.GlassReading) { r.Attached = span(211, 210) },
		func(r *api.GlassReading) { r.Dry.Low = -301 },
		func(r *api.GlassReading) { r.Dry.High = 501 },
		func(r *api.GlassReading) { r.Dry = span(153, 152) },
		func(r *api.GlassReading) { r.Wet.Low = -301 },
		func(r *api.GlassReading) { r.Wet.High = 501 },
		func(r *api.GlassReading) { r.Wet = span(122, 121) },
	} {
		r := firstReading()
		spoil(&r)
		out = append(out, r)
	}
	return out
}
