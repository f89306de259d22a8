package score_test

import (
	"math"
	"slices"
	"testing"

	"isobar/api"
	"isobar/score"
)

// paper returns a paper.
func paper(base, rate, least int) api.ScorePaper {
	return api.ScorePaper{Base: base, Rate: rate, Least: least}
}

// TestPay is for P6.7: the chapter's examples, and the edges.
func TestPay(t *testing.T) {
	for _, x := range []struct {
		p            api.ScorePaper
		points, want int
	}{
		{paper(500, 30, 400), 33000, 599}, {paper(500, 30, 400), -50000, 400},
		{paper(500, 30, 400), 0, 500}, {paper(500, 30, 400), 333, 500}, {paper(500, 30, 400), 334, 501}, {paper(500, 30, 400), 666, 501}, {paper(500, 30, 400), 667, 502},
		{paper(500, 30, 400), -1, 499}, {paper(500, 30, 400), -333, 499}, {paper(500, 30, 400), -334, 498}, {paper(500, 30, 400), -666, 498}, {paper(500, 30, 400), -667, 497},
		{paper(500, 30, 400), -33333, 400}, {paper(500, 30, 400), -33000, 401}, {paper(500, 30, 400), -33334, 400}, {paper(500, 30, 399), -33334, 399}, {paper(500, 30, 0), -33334, 399},
		{paper(100, 100, 0), 100, 101}, {paper(100, 100, 0), 99, 100}, {paper(100, 100, 0), -100, 99}, {paper(100, 100, 0), -101, 98}, {paper(100, 100, 0), -10000, 0}, {paper(100, 100, 0), -10001, 0},
		{paper(0, 0, 0), 5, 0}, {paper(7, 0, 0), -100000000, 7}, {paper(7, 0, 8), 100000000, 8}, {paper(7, 0, 7), 1, 7},
		{paper(100000, 1000, 0), 100000000, 10100000}, {paper(100000, 1000, 0), -100000000, 0}, {paper(100000, 1000, 100000), -100000000, 100000}, {paper(100000, 1000, 100000), -1, 100000}, {paper(100000, 1000, 100000), 9, 100000}, {paper(100000, 1000, 100000), 10, 100001},
		{paper(100000, 1000, 0), -999999, 0}, {paper(100000, 1000, 0), -999990, 1}, {paper(100000, 1, 0), 9999, 100000}, {paper(100000, 1, 0), 10000, 100001},
	} {
		if got, e := score.Pay(x.p, x.points); got != x.want || e != api.OK {
			t.Error(x, got, e)
		}
	}
}

// TestPayOfMany is for P6.7: what is paid is at least Least, never more for fewer points, and what the chapter's definition says.
func TestPayOfMany(t *testing.T) {
	d := dice(50)
	floored, negative := 0, 0
	for range 20000 {
		p, points := d.paper(), d.sofar()
		got, e := score.Pay(p, points)
		if got != payOf(p, points) || got < p.Least || e != api.OK {
			t.Fatal(p, points, got, e)
		}
		fewer := points - d.from(0, 10000)
		if less, e := score.Pay(p, fewer); less > got || e != api.OK {
			t.Fatal(p, points, fewer, got, less, e)
		}
		if got == p.Least && got > p.Base {
			floored++
		}
		if points < 0 && got > p.Least {
			negative++
		}
	}
	if floored < 1000 || negative < 1000 {
		t.Error("too few of a kind:", floored, negative)
	}
}

// wrongPapers returns papers that are not as defined.
func wrongPapers() []api.ScorePaper {
	return []api.ScorePaper{
		paper(-1, 30, 400), paper(100001, 30, 400), paper(500, -1, 400), paper(500, 1001, 400), paper(500, 30, -1), paper(500, 30, 100001),
		paper(math.MinInt, 30, 400), paper(math.MaxInt, 30, 400), paper(500, math.MinInt, 400), paper(500, math.MaxInt, 400), paper(500, 30, math.MinInt), paper(500, 30, math.MaxInt),
	}
}

// TestPayErrors is for P6.7.
func TestPayErrors(t *testing.T) {
	for _, p := range wrongPapers() {
		if got, e := score.Pay(p, 0); got != 0 || e != api.ErrArg {
			t.Error(p, got, e)
		}
	}
	for _, points := range []int{-100000001, 100000001, math.MinInt, math.MaxInt} {
		if got, e := score.Pay(paper(500, 30, 400), points); got != 0 || e != api.ErrArg {
			t.Error(points, got, e)
		}
	}
}

// TestTempt is for P6.7: the chapter's examples, the edges, and the first one of several.
func TestTempt(t *testing.T) {
	for i, x := range []struct {
		p      api.ScorePaper
		sofar  int
		belief []int
		step   int
		want   []int
		more   int
	}{
		{paper(100, 100, 100), 0, []int{60, 40}, 20, []int{100, 0}, 800}, {paper(100, 100, 0), 0, []int{60, 40}, 20, []int{60, 40}, 0},
		// the points so far count: with many more of them Least is never reached, and with many fewer nothing else is paid
		{paper(100, 100, 100), 10000, []int{60, 40}, 20, []int{60, 40}, 0}, {paper(100, 100, 100), -10000, []int{60, 40}, 20, []int{0, 100}, 0}, {paper(100, 100, 100), -9900, []int{60, 40}, 20, []int{100, 0}, 60},
		// each one earns as much: the first one
		{paper(100, 0, 0), 0, []int{60, 40}, 20, []int{0, 100}, 0}, {paper(100, 0, 0), 0, []int{60, 30, 10}, 1, []int{0, 0, 100}, 0}, {paper(0, 1000, 100000), 0, []int{60, 30, 10}, 10, []int{0, 0, 100}, 0},
		{paper(100000, 1000, 0), 0, []int{50, 50}, 100, []int{0, 100}, -50000}, {paper(100, 100, 100), 0, []int{50, 50}, 100, []int{0, 100}, 0}, {paper(100, 200, 100), 0, []int{50, 50}, 100, []int{0, 100}, 0},
		{paper(100000, 1000, 0), 0, []int{25, 25, 50}, 50, []int{0, 50, 50}, -12500}, {paper(100000, 1000, 0), 0, []int{60, 30, 10}, 25, []int{50, 25, 25}, -3500},
		{paper(100000, 1000, 0), 0, []int{60, 30, 10}, 10, []int{60, 30, 10}, 0}, {paper(100000, 1000, 0), 99990000, []int{60, 30, 10}, 10, []int{60, 30, 10}, 0}, {paper(100000, 1000, 0), -99990000, []int{60, 30, 10}, 10, []int{0, 0, 100}, 0},
		// pence that are cut off: 100 points are a penny
		{paper(1000, 100, 0), 0, []int{50, 50}, 1, []int{50, 50}, 0}, {paper(1000, 100, 0), 99, []int{50, 50}, 1, []int{43, 57}, 0},
		{paper(1000, 1, 0), -5000, []int{50, 50}, 50, []int{50, 50}, 0}, {paper(1000, 1, 0), -5001, []int{50, 50}, 50, []int{0, 100}, 0}, {paper(1000, 1, 0), 0, []int{90, 10}, 10, []int{100, 0}, 90},
	} {
		if got, more, e := score.Tempt(x.p, x.sofar, x.belief, x.step); !slices.Equal(got, x.want) || more != x.more || e != api.OK {
			t.Error(i, got, more, e)
		}
	}
}

// TestTemptErrors is for P6.7.
func TestTemptErrors(t *testing.T) {
	ask := func(p api.ScorePaper, sofar int, belief []int, step int) {
		if got, more, e := score.Tempt(p, sofar, belief, step); len(got) != 0 || more != 0 || e != api.ErrArg {
			t.Error(p, sofar, belief, step, got, more, e)
		}
	}
	for _, p := range wrongPapers() {
		ask(p, 0, []int{60, 40}, 20)
	}
	for _, sofar := range []int{-99990001, 99990001, -100000000, 100000000, math.MinInt, math.MaxInt} {
		ask(paper(100, 100, 100), sofar, []int{60, 40}, 20)
	}
	for _, parts := range wrongParts() {
		ask(paper(100, 100, 100), 0, parts, 20)
	}
	for _, step := range wrongSteps() {
		ask(paper(100, 100, 100), 0, []int{60, 40}, step)
	}
	for _, step := range steps() {
		for _, sofar := range []int{-99990000, 99990000} {
			if got, _, e := score.Tempt(paper(100, 100, 100), sofar, []int{60, 40}, step); len(got) != 2 || e != api.OK {
				t.Error(step, sofar, got, e)
			}
		}
	}
}

// TestTemptOfMany is for P6.7: the statement is the first one of those that may earn most, as the chapter's definition says.
func TestTemptOfMany(t *testing.T) {
	d := dice(51)
	counts := map[int]int{}
	for range 1500 {
		p, sofar, belief, step := d.paper(), d.sofar(), d.parts(d.from(2, 3)), d.among(steps()[2:]...)
		if d.IntN(2) == 0 {
			p.Least, sofar = p.Base, d.from(-20000, 20000)
		}
		want, most := temptOf(p, sofar, belief, step)
		got, more, e := score.Tempt(p, sofar, belief, step)
		if !slices.Equal(got, want) || more != most || e != api.OK {
			t.Fatal(p, sofar, belief, step, got, more, e, want, most)
		}
		counts[min(1, max(-1, more))]++
	}
	if counts[-1] < 100 || counts[0] < 100 || counts[1] < 100 {
		t.Error("too few of a kind:", counts)
	}
}

// TestTemptInTheFinestStep is for P6.7: statements in the step 1 are all parts.
func TestTemptInTheFinestStep(t *testing.T) {
	d := dice(52)
	for range 25 {
		p, sofar, belief := d.paper(), d.sofar(), d.parts(3)
		p.Least = p.Base
		want, most := temptOf(p, sofar, belief, 1)
		if got, more, e := score.Tempt(p, sofar, belief, 1); !slices.Equal(got, want) || more != most || more < 0 || e != api.OK {
			t.Fatal(p, sofar, belief, got, more, e, want, most)
		}
	}
}

// TestHonest is for P6.7 and P0.6: where Least is never reached, nobody may earn a penny more than by an honest statement; and nothing more, where no pence are cut off.
func TestHonest(t *testing.T) {
	d := dice(53)
	cut := 0
	for range 3000 {
		belief, step := d.parts(d.from(2, 3)), d.among(steps()[2:]...)
		rate := d.from(1, 1000)
		sofar := d.from(-50000, 50000)
		p := paper(d.from(10000, 100000), rate, d.from(0, 4000))
		_, more, e := score.Tempt(p, sofar, belief, step)
		if more >= 100 || e != api.OK {
			t.Fatal(p, sofar, belief, step, more, e)
		}
		if more > 0 {
			cut++
		}
		// points that are multiples of 100, at a rate of whole pence for each 100 of them
		whole := allParts(len(belief), 10)
		belief, p.Rate = whole[d.IntN(len(whole))], d.from(1, 10)*100
		got, more, e := score.Tempt(p, sofar/100*100, belief, d.among(10, 20, 50, 100))
		if more > 0 || (more == 0) != slices.Equal(got, belief) || e != api.OK {
			t.Fatal(p, sofar, belief, got, more, e)
		}
	}
	if cut < 100 {
		t.Error("too few pence are cut off:", cut)
	}
}
