package chart

import "iter"

// grid is the points of a map, or of a field.
type grid struct {
	wide int
	rows int
}

// points returns how many points there are.
func (g grid) points() int {
	return g.wide * g.rows
}

// apart returns how many rows and how many columns two points are apart.
func (g grid) apart(a, b int) (rows, columns int) {
	return difference(a/g.wide, b/g.wide), difference(a%g.wide, b%g.wide)
}

// distance returns the distance of two points.
func (g grid) distance(a, b int) int {
	rows, columns := g.apart(a, b)
	return rows + columns
}

// atEdge reports whether a point is at the edge.
func (g grid) atEdge(point int) bool {
	row, column := g.apart(point, 0)
	return row == 0 || row == g.rows-1 || column == 0 || column == g.wide-1
}

// neighbours yields the neighbours of a point, in order.
func (g grid) neighbours(point int) iter.Seq[int] {
	return func(yield func(int) bool) {
		for other := range g.points() {
			if g.distance(point, other) == 1 && !yield(other) {
				return
			}
		}
	}
}

// around yields the points that are a point's neighbours, or in one cell with it, in order.
func (g grid) around(point int) iter.Seq[int] {
	return func(yield func(int) bool) {
		for other := range g.points() {
			rows, columns := g.apart(point, other)
			if greatest(rows, columns) == 1 && !yield(other) {
				return
			}
		}
	}
}

// cell is the points of a cell, each one next to its neighbours; so the last one is next to the first one.
type cell [4]int

// cells yields all cells.
func (g grid) cells() iter.Seq[cell] {
	return func(yield func(cell) bool) {
		for point := range g.points() - g.wide {
			lastColumn := point%g.wide == g.wide-1
			if !lastColumn && !yield(cell{point, point + 1, point + 1 + g.wide, point + g.wide}) {
				return
			}
		}
	}
}
