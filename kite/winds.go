package kite

import (
	"slices"

	"isobar/api"
)

// place is how far the balloon comes down by the winds of the layers before one.
type place struct {
	layer int
	far   int
}

// blown are the winds of a direction with which the balloon comes down where it was found: the first ones, and between which bounds that of each layer lies.
type blown struct {
	first []int
	known []api.Span
}

// blow returns the winds of a direction with which the balloon comes down where it was found, and whether it can. With some speeds and a top, the winds of one direction do not limit those of the other one. What the layers from a place on can add is the same however the balloon came there, so that each place is searched once: the first winds are found when it is met first.
func (f flown) blow(d direction) (blown, bool) {
	met := map[place]bool{}
	var first []int
	winds := make([]int, len(f.Layers))
	could := make([][]int, len(f.Layers))
	var search func(at place) bool
	search = func(at place) bool {
		if at.layer == len(f.Layers) {
			fits := within(at.far, f.found(d))
			if fits && first == nil {
				first = slices.Clone(winds)
			}
			return fits
		}
		if fits, known := met[at]; known {
			return fits
		}
		fits, stay := false, f.stay(at.layer)
		for wind := range numbers(f.wind(at.layer, d)) {
			winds[at.layer] = wind
			if search(place{at.layer + 1, at.far + wind*stay}) {
				could[at.layer] = append(could[at.layer], wind)
				fits = true
			}
		}
		met[at] = fits
		return fits
	}
	if !search(place{}) {
		return blown{}, false
	}
	return blown{first, hulls(could)}, true
}

// hulls returns the hull of each list of numbers.
func hulls(lists [][]int) []api.Span {
	var all []api.Span
	for _, list := range lists {
		all = append(all, hull(list...))
	}
	return all
}

// timely reports whether the balloon flies for as many minutes as was found.
func (f flown) timely() bool {
	return within(f.minutes(), f.Minutes)
}

// known returns between which bounds the top and the winds lie in all truths that fit, and whether there are any.
func known(f api.KiteFlight) (api.KiteWinds, bool) {
	var tops []int
	var could [directions][][]int
	for d := range could {
		could[d] = make([][]int, len(f.Layers))
	}
search:
	for in := range flights(f) {
		if !in.timely() {
			continue
		}
		var both [directions]blown
		for d := range directions {
			b, can := in.blow(d)
			if !can {
				continue search
			}
			both[d] = b
		}
		tops = append(tops, in.top)
		for d, b := range both {
			for layer, wind := range b.known {
				could[d][layer] = append(could[d][layer], wind.Low, wind.High)
			}
		}
	}
	if len(tops) == 0 {
		return api.KiteWinds{}, false
	}
	return api.KiteWinds{Top: hull(tops...), East: hulls(could[east]), North: hulls(could[north])}, true
}

// landed is the first truth that fits.
type landed struct {
	api.KiteTruth
}

// leave gives up the search of flights if the balloon comes down where it was found, after as many minutes.
func (f flown) leave() {
	if !f.timely() {
		return
	}
	var winds [directions][]int
	for d := range directions {
		b, can := f.blow(d)
		if !can {
			return
		}
		winds[d] = b.first
	}
	panic(landed{api.KiteTruth{Up: f.up, Down: f.down, Top: f.top, East: winds[east], North: winds[north]}})
}

// fitting returns the first truth that fits, and whether there is one.
func fitting(f api.KiteFlight) (t api.KiteTruth, possible bool) {
	defer func() {
		if left, gave := recover().(landed); gave {
			t, possible = left.KiteTruth, true
		}
	}()
	for in := range flights(f) {
		in.leave()
	}
	return api.KiteTruth{}, false
}

// pinned returns a flight in which a wind of a layer can only be an end of what is known of it.
func pinned(f api.KiteFlight, w api.KiteWinds, layer int, northward, most bool) api.KiteFlight {
	f.Layers = slices.Clone(f.Layers)
	wind, known := &f.Layers[layer].East, w.East[layer]
	if northward {
		wind, known = &f.Layers[layer].North, w.North[layer]
	}
	take := lowEnd
	if most {
		take = highEnd
	}
	*wind = hull(take(known))
	return f
}
