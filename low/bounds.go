package low

import (
	"slices"

	"isobar/api"
)

// broken is what a chain of lows that is not possible gives up with.
type broken struct{}

// narrow returns the numbers that all of some spans have; it gives up if there are none.
func narrow(span api.Span, more ...api.Span) api.Span {
	for _, other := range more {
		span = api.Span{Low: max(span.Low, other.Low), High: min(span.High, other.High)}
	}
	if span.Low > span.High {
		panic(broken{})
	}
	return span
}

// whole reports whether something comes to its end, and no chain of lows gives up.
func whole(follow func()) (ended bool) {
	defer func() {
		if _, gave := recover().(broken); gave {
			ended = false
		}
	}()
	follow()
	return true
}

// reach returns between which bounds a number of a span lies after it has changed by so much at most; it remains from 0 to a greatest number.
func reach(span api.Span, change, most int) api.Span {
	return narrow(api.Span{Low: span.Low - change, High: span.High + change}, api.Span{High: most})
}

// look returns between which bounds one of the three numbers of a low lies some hours before or after a map, as far as the map tells.
type look func(spot api.LowSpot, hours int) api.Span

// x looks at the X of a low.
func (l linked) x(spot api.LowSpot, hours int) api.Span {
	return reach(spot.X, l.Speed*hours, api.LowSide)
}

// y looks at the Y of a low.
func (l linked) y(spot api.LowSpot, hours int) api.Span {
	return reach(spot.Y, l.Speed*hours, api.LowSide)
}

// depth looks at the pressure of a low.
func (l linked) depth(spot api.LowSpot, hours int) api.Span {
	return reach(spot.Depth, l.Deepen*hours, api.LowDepth)
}

// each returns the low whose three numbers have the bounds that are made of each of the three looks.
func (l linked) each(bounds func(look) api.Span) api.LowSpot {
	var found [3]api.Span
	for i, see := range [3]look{l.x, l.y, l.depth} {
		found[i] = bounds(see)
	}
	return api.LowSpot{X: found[0], Y: found[1], Depth: found[2]}
}

// later returns between which bounds a low lies some hours later.
func (l linked) later(spot api.LowSpot, hours int) api.LowSpot {
	return l.each(func(see look) api.Span {
		return see(spot, hours)
	})
}

// bounds returns between which bounds a low of a map lies with these links. Each end is reached, unless a low of its chain gives up: the least numbers, and the greatest ones, that all maps of the chain leave to each of them change no faster than they can.
func (l linked) bounds(at, low int) api.LowSpot {
	return l.each(func(see look) api.Span {
		seen := make([]api.Span, 0, api.LowMaps)
		for other, number := range l.chain(at, low) {
			hours := l.Maps[at].At - l.Maps[other].At
			seen = append(seen, see(l.Maps[other].Spots[number], max(hours, -hours)))
		}
		return narrow(seen[0], seen[1:]...)
	})
}

// unbroken reports whether the chains of all lows of the maps from a number on are possible.
func (l linked) unbroken(from int) bool {
	return whole(func() {
		for at := from; at < len(l.Maps); at++ {
			for low := range l.Maps[at].Spots {
				l.bounds(at, low)
			}
		}
	})
}

// hull returns the bounds of what lies within the bounds of one or the other of two lows.
func (l linked) hull(a, b api.LowSpot) api.LowSpot {
	return l.each(func(see look) api.Span {
		one, other := see(a, 0), see(b, 0)
		return api.Span{Low: min(one.Low, other.Low), High: max(one.High, other.High)}
	})
}

// where returns between which bounds a low lies on a map of maps that are possible.
func where(s api.LowSuite, at, low int) api.LowSpot {
	var spot api.LowSpot
	seen := false
	for l := range truths(s) {
		bounds := l.bounds(at, low)
		if seen {
			bounds = l.hull(spot, bounds)
		}
		spot, seen = bounds, true
	}
	return spot
}

// exactly returns the span of one number.
func exactly(n int) api.Span {
	return api.Span{Low: n, High: n}
}

// pinned returns the suite whose lows are just where something that may be a truth says, with its links; it gives up if one of them is outside its bounds.
func pinned(s api.LowSuite, t api.LowTruth) linked {
	l := linked{s, t.Same}
	l.Maps = slices.Clone(s.Maps)
	for at, m := range s.Maps {
		l.Maps[at].Spots = nil
		for low, spot := range m.Spots {
			told := api.LowSpot{X: exactly(t.X[at][low]), Y: exactly(t.Y[at][low]), Depth: exactly(t.Depth[at][low])}
			l.Maps[at].Spots = append(l.Maps[at].Spots, l.each(func(see look) api.Span {
				return narrow(see(spot, 0), see(told, 0))
			}))
		}
	}
	return l
}

// fits reports whether something that has the lists of a truth is one.
func fits(s api.LowSuite, t api.LowTruth) bool {
	var l linked
	inside := whole(func() {
		l = pinned(s, t)
	})
	return inside && !slices.ContainsFunc(t.Same, twice) && l.allowed() && l.unbroken(0)
}
