package glass

import "isobar/api"

// holdStep is how many tenths are between two temperatures of the table holds.
const holdStep = 50

// holds is what air can hold at -300 tenths, and at each whole multiple of 50 tenths from there to 500.
var holds = [17]int{38, 61, 96, 144, 216, 316, 458, 654, 921, 1279, 1753, 2376, 3182, 4218, 5532, 7188, 9251}

// hold returns what air can hold at a temperature.
func hold(temperature int) int {
	above := temperature + api.GlassCold
	lower := holds[above/holdStep]
	tenths := above % holdStep
	if tenths == 0 {
		return lower
	}
	return lower + (holds[above/holdStep+1]-lower)*tenths/holdStep
}

// truth is what is true of a reading; its methods correct the reading by it.
type truth struct {
	api.GlassTruth
}

// exact returns what the mercury is when its index and the observer's error are taken from what was read.
func (t truth) exact(mercury int) int {
	return mercury - t.Index - t.Error
}

// cooled returns what the mercury would be at 0 degrees.
func (t truth) cooled(mercury int) int {
	return mercury - quotient(mercury*t.Attached*163, 10000000)
}

// weighed returns what the mercury would be where gravity is as usual.
func (t truth) weighed(mercury int) int {
	return mercury + quotient(mercury*t.Gravity, 1000000)
}

// lowered returns what a pressure would be at the sea.
func (t truth) lowered(here int) int {
	return here + quotient(here*t.Height*10, 79900+29*t.Dry)
}

// humidity returns the humidity at a pressure.
func (t truth) humidity(here int) int {
	bulb := least(t.Wet, t.Dry)
	vapour := hold(bulb) - quotient(here*(t.Dry-bulb)*8, 100000)
	return 100 * greatest(vapour, 0) / hold(t.Dry)
}

// weather returns the pressures and the humidity in truth, of a reading of the mercury.
func weather(mercury int, t truth) api.GlassWeather {
	here := mercury
	for _, correct := range [3]func(int) int{t.exact, t.cooled, t.weighed} {
		here = correct(here)
	}
	return api.GlassWeather{Here: here, Sea: t.lowered(here), Humid: t.humidity(here)}
}

// misread returns between which bounds the observer's error lies.
func (v view) misread() api.Span {
	return api.Span{Low: -v.Read, High: v.Read}
}

// allows reports whether a truth is as defined for a reading.
func (v view) allows(r api.GlassReading, t api.GlassTruth) bool {
	return inside(t.Index, v.bounds(r.Day)) &&
		inside(t.Error, v.misread()) &&
		inside(t.Gravity, v.Gravity) &&
		inside(t.Height, v.Height) &&
		inside(t.Attached, r.Attached) &&
		inside(t.Dry, r.Dry) &&
		inside(t.Wet, r.Wet)
}

// extreme returns the truth in which the pressure here and the height are at one end, the dry bulb at another one, and the wet bulb at a third one.
func (v view) extreme(r api.GlassReading, pressure, dry, wet end) truth {
	against := pressure.other()
	return truth{api.GlassTruth{
		Index:    against.of(v.bounds(r.Day)),
		Error:    against.of(v.misread()),
		Gravity:  pressure.of(v.Gravity),
		Height:   pressure.of(v.Height),
		Attached: against.of(r.Attached),
		Dry:      dry.of(r.Dry),
		Wet:      wet.of(r.Wet),
	}}
}

// known returns what is known of a reading. Each quotient changes by less than what it corrects, so that all steps go one way: the pressure at the sea rises with the pressure here, and in colder air; the humidity rises with the wet bulb, at a lower pressure, and in colder air.
func (v view) known(r api.GlassReading) api.GlassKnown {
	light, heavy := ends(func(e end) api.GlassWeather {
		return weather(r.Mercury, v.extreme(r, e, e.other(), e))
	})
	arid, damp := ends(func(e end) api.GlassWeather {
		return weather(r.Mercury, v.extreme(r, e.other(), e.other(), e))
	})
	return api.GlassKnown{
		Here:  api.Span{Low: light.Here, High: heavy.Here},
		Sea:   api.Span{Low: light.Sea, High: heavy.Sea},
		Humid: api.Span{Low: arid.Humid, High: damp.Humid},
	}
}
