package kite

import "isobar/api"

// degrees is how many degrees are between two angles of the table sines.
const degrees = 5

// sines is the sine of each multiple of 5 degrees, from 0 to 90.
var sines = [19]int{0, 872, 1736, 2588, 3420, 4226, 5000, 5736, 6428, 7071, 7660, 8192, 8660, 9063, 9397, 9659, 9848, 9962, 10000}

// sine returns the sine of an angle.
func sine(angle int) int {
	lesser, more := sines[angle/degrees], angle%degrees
	if more == 0 {
		return lesser
	}
	return lesser + (sines[angle/degrees+1]-lesser)*more/degrees
}

// climb returns the height of a kite.
func climb(wire, angle, sag int) int {
	straight := wire * (1000 - sag) / 1000
	return straight * sine(angle) / 10000
}

// reach returns between which bounds the height of a kite lies.
func reach(k api.KiteLine) api.Span {
	lowest, highest := ends(func(raises, lowers end) int {
		return climb(raises(k.Wire), raises(k.Angle), lowers(k.Sag))
	})
	return api.Span{Low: lowest, High: highest}
}

// heights returns the height of each mark, by the height of the first one and the temperature of each.
func heights(marks []api.KiteMark, base int, temps []int) []int {
	up := []int{base}
	for mark := 1; mark < len(marks); mark++ {
		below, here := marks[mark-1].Pressure, marks[mark].Pressure
		warmth := 5464 + temps[mark-1] + temps[mark]
		up = append(up, up[mark-1]+warmth*(below-here)*2927/(1000*(below+here)))
	}
	return up
}

// levels returns between which bounds the height of each mark lies. Air is deeper the warmer it is, so that all marks are lowest at once.
func levels(t api.KiteTrace) []api.Span {
	lowest, highest := ends(func(raises, _ end) []int {
		var temps []int
		for _, mark := range t.Marks {
			temps = append(temps, raises(mark.Temp))
		}
		return heights(t.Marks, raises(t.Base), temps)
	})
	var all []api.Span
	for mark := range len(t.Marks) {
		all = append(all, api.Span{Low: lowest[mark], High: highest[mark]})
	}
	return all
}
