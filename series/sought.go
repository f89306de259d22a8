package series

import "isobar/api"

// sought is a suite whose bounds are sought: above is how far each number of a truth can be above each other one, in truths of what has tied them so far.
type sought struct {
	api.SeriesSuite
	above [numbers][numbers]int
}

// seek returns a suite with its bounds; it gives up if the series is not possible.
func seek(s api.SeriesSuite) *sought {
	k := &sought{SeriesSuite: s}
	for a := range numbers {
		for b := range numbers {
			if a != b {
				k.above[a][b] = most(s, a) + most(s, b)
			}
		}
	}
	for tied := range ties(s) {
		k.narrow(tied.number, tied.less, tied.differ.High)
		k.narrow(tied.less, tied.number, -tied.differ.Low)
	}
	return k
}

// narrow ties a number to another one, above which it is by so much at most. How far two others can differ is then narrowed by the way from one to the other over these two, so that no narrower bounds are left to find when the last tie has come.
func (k *sought) narrow(a, b, by int) {
	if by < -k.above[b][a] {
		panic(impossible{})
	}
	for i := range numbers {
		for j := range numbers {
			k.above[i][j] = min(k.above[i][j], k.above[i][a]+by+k.above[b][j])
		}
	}
}

// differ returns between which bounds a number, less another one, lies.
func (k *sought) differ(a, b int) api.Span {
	return api.Span{Low: -k.above[b][a], High: k.above[a][b]}
}

// least returns the least that a number can be.
func (k *sought) least(number int) int {
	return -k.above[last(k.SeriesSuite)][number]
}

// greatest returns the greatest that a number can be.
func (k *sought) greatest(number int) int {
	return k.above[number][last(k.SeriesSuite)]
}
