package score

import "isobar/api"

// printed is a table with the numbers of each statement.
type printed struct {
	api.ScoreTable
	numbers map[statement]gains
}

// read returns a table with the numbers of each statement.
func read(t api.ScoreTable) printed {
	p := printed{t, map[statement]gains{}}
	at := 0
	for s := range statements(t.Classes, t.Step) {
		p.numbers[s] = gains(stated(t.Points[at]))
		at++
	}
	return p
}

// gamed is a belief at which a table can be gamed, the statement that earns most by it, and by how much it earns more.
type gamed struct {
	belief statement
	most   statement
	more   int
}

// trust gives up at a belief at which the table can be gamed.
func (p printed) trust(belief statement) {
	most, earned := best(statements(p.Classes, p.Step), func(s statement) int {
		return belief.expect(p.numbers[s])
	})
	if more := earned - belief.expect(p.numbers[belief]); more > 0 {
		panic(gamed{belief, most, more})
	}
}

// game returns the first belief at which the table can be gamed, and whether there is one.
func (p printed) game() (g gamed, found bool) {
	defer func() {
		if left, gave := recover().(gamed); gave {
			g, found = left, true
		}
	}()
	for belief := range statements(p.Classes, p.Step) {
		p.trust(belief)
	}
	return gamed{}, false
}

// pay returns what a paper pays for some points.
func pay(p api.ScorePaper, points int) int {
	return max(p.Least, p.Base+floor(p.Rate*points, api.ScoreUnit))
}

// pays returns what a paper pays for each class, for the points so far and those of a statement together.
func pays(p api.ScorePaper, sofar int, s statement) gains {
	var g gains
	for class, n := range points(s) {
		g[class] = pay(p, sofar+n)
	}
	return g
}

// floor returns a quotient that is rounded down, also if it is less than 0.
func floor(n, by int) int {
	quotient := n / by
	if n%by < 0 {
		quotient--
	}
	return quotient
}
