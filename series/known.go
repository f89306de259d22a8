package series

import "isobar/api"

// end takes the least, or the greatest, that a number can be.
type end func(number int) int

// span returns the span of what is told of least numbers, and what is told of greatest ones. All least numbers together are a truth, and so are all greatest ones, so that both ends are reached.
func (k *sought) span(tell func(end) int) api.Span {
	return api.Span{Low: tell(k.least), High: tell(k.greatest)}
}

// bounds returns between which bounds some numbers lie that follow each other.
func (k *sought) bounds(from, count int) []api.Span {
	var all []api.Span
	for more := range count {
		all = append(all, k.span(func(of end) int { return of(from + more) }))
	}
	return all
}

// values returns between which bounds the value of each year lies.
func (k *sought) values() []api.Span {
	return k.bounds(value(0), len(k.Years))
}

// shifts returns between which bounds the correction of each shelter lies.
func (k *sought) shifts() []api.Span {
	return k.bounds(0, k.Shelters)
}

// normal returns between which bounds the normal of the years from one to another one lies.
func (k *sought) normal(from, to int) api.Span {
	return k.span(func(of end) int {
		sum := 0
		for year := from; year <= to; year++ {
			sum += of(value(year))
		}
		return quotient(sum, to-from+1)
	})
}

// quotient returns a number divided by one that is greater than 0, rounded down (Go rounds quotients that are less than 0 up).
func quotient(n, by int) int {
	if n%by < 0 {
		return n/by - 1
	}
	return n / by
}

// frost returns between which numbers that of the years lies that were no warmer than a level.
func (k *sought) frost(level int) api.Span {
	// The greater values are, the fewer of them are no greater than the level.
	above := k.span(func(of end) int {
		years := 0
		for year := range k.Years {
			if of(value(year)) > level {
				years++
			}
		}
		return years
	})
	return api.Span{Low: len(k.Years) - above.High, High: len(k.Years) - above.Low}
}

// warmer returns what is known of whether a year was warmer than another one.
func (k *sought) warmer(a, b int) api.SeriesWord {
	more := k.differ(value(a), value(b))
	switch {
	case more.Low > 0:
		return api.SeriesSurely
	case more.High > 0:
		return api.SeriesMay
	}
	return api.SeriesNever
}

// warmest returns, for each year, what is known of whether it was the warmest. It can have been if none of the others, each looked at alone, surely was warmer: with its own value at its greatest, the least values of all others that go with it are a truth, in which each of them is as far below it as it can be.
func (k *sought) warmest() []api.SeriesWord {
	var words []api.SeriesWord
years:
	for year := range k.Years {
		word := api.SeriesSurely
		for rival := range k.Years {
			switch k.warmer(rival, year) {
			case api.SeriesSurely:
				words = append(words, api.SeriesNever)
				continue years
			case api.SeriesMay:
				word = api.SeriesMay
			}
		}
		words = append(words, word)
	}
	return words
}
