package kite

import (
	"iter"

	"isobar/api"
)

// direction is one in which the wind blows.
type direction int

const (
	east direction = iota
	north
	directions // how many there are
)

// air is a layer of air.
type air api.KiteLayer

// east returns between which bounds the wind to the east lies.
func (a air) east() api.Span { return a.East }

// north returns between which bounds the wind to the north lies.
func (a air) north() api.Span { return a.North }

// wind returns between which bounds the wind of a direction lies.
func (a air) wind(d direction) api.Span {
	return [directions]func() api.Span{a.east, a.north}[d]()
}

// flown is a flight with its speeds and its top.
type flown struct {
	api.KiteFlight
	up   int
	down int
	top  int
}

// flights yields a flight with all its speeds and tops, in the order of truths.
func flights(f api.KiteFlight) iter.Seq[flown] {
	return func(yield func(flown) bool) {
		for up := range numbers(f.Up) {
			for down := range numbers(f.Down) {
				for top := range numbers(f.Top) {
					if !yield(flown{f, up, down, top}) {
						return
					}
				}
			}
		}
	}
}

// numbers yields the numbers of a span.
func numbers(s api.Span) iter.Seq[int] {
	return func(yield func(int) bool) {
		for more := range s.High - s.Low + 1 {
			if !yield(s.Low + more) {
				return
			}
		}
	}
}

// wind returns between which bounds the wind of a layer lies in a direction.
func (f flown) wind(layer int, d direction) api.Span {
	return air(f.Layers[layer]).wind(d)
}

// found returns between which bounds the balloon was found in a direction.
func (f flown) found(d direction) api.Span {
	return [directions]api.Span{f.East, f.North}[d]
}

// stay returns for how many minutes the balloon is in a layer.
func (f flown) stay(layer int) int {
	if layer >= f.top {
		return 0
	}
	deep := f.Layers[layer].Deep
	return rounded(deep, f.up) + rounded(deep, f.down)
}

// rounded returns a quotient that is rounded up.
func rounded(n, by int) int {
	return (n + by - 1) / by
}

// minutes returns for how many minutes the balloon flies.
func (f flown) minutes() int {
	total := 0
	for layer := range len(f.Layers) {
		total += f.stay(layer)
	}
	return total
}

// drift returns how far the balloon comes down in a direction, by the wind of each layer.
func (f flown) drift(wind func(layer int) int) int {
	far := 0
	for layer := range len(f.Layers) {
		far += wind(layer) * f.stay(layer)
	}
	return far
}

// play returns how far the balloon comes down in truth in each direction, and for how many minutes it flies.
func play(f api.KiteFlight, t api.KiteTruth) ([directions]int, int) {
	in := flown{f, t.Up, t.Down, t.Top}
	var far [directions]int
	for d, winds := range [directions][]int{t.East, t.North} {
		far[d] = in.drift(func(layer int) int { return winds[layer] })
	}
	return far, in.minutes()
}

// land returns between which bounds the balloon comes down, and flies, in all truths.
func land(f api.KiteFlight) api.KiteLanding {
	var far [directions][]int
	var minutes []int
	for in := range flights(f) {
		minutes = append(minutes, in.minutes())
		for d := range directions {
			lowest, highest := ends(func(raises, _ end) int {
				return in.drift(func(layer int) int { return raises(in.wind(layer, d)) })
			})
			far[d] = append(far[d], lowest, highest)
		}
	}
	return api.KiteLanding{
		East:    hull(far[east]...),
		North:   hull(far[north]...),
		Minutes: hull(minutes...),
	}
}
