package low_test

import (
	"slices"
	"testing"

	"isobar/api"
	"isobar/low"
)

// The words.
const (
	never  = api.LowNever
	may    = api.LowMay
	surely = api.LowSurely
)

// words is lists of words.
type words = [][]api.LowWord

// still returns a suite of maps on which all lows are of the same depth, and which are an hour apart.
func still(speed, born, gone int, maps ...[]api.LowSpot) api.LowSuite {
	s := api.LowSuite{Speed: speed, Born: born, Gone: gone}
	for i, spots := range maps {
		s.Maps = append(s.Maps, chart(i, spots...))
	}
	return s
}

// row returns the lows of a map.
func row(spots ...api.LowSpot) []api.LowSpot { return spots }

// TestSameExamples is for P4.2.
func TestSameExamples(t *testing.T) {
	bornOne := suiteS()
	bornOne.Born, bornOne.Gone = 1, 2
	wide := spot(span(0, 20), span(50, 50), span(0, 99999))
	for i, x := range []struct {
		s    api.LowSuite
		at   int
		want words
	}{
		{suiteS(), 1, words{{surely, never}, {never, surely}}},
		{suiteS(), 2, words{{may, may}}},
		{bornOne, 1, words{{may, never}, {never, may}}},
		{bornOne, 2, words{{may, may}}},
		{cut(suiteS(), 2), 1, words{{surely, never}, {never, surely}}},
		// two can be the same as either, and one more map tells
		{still(5, 0, 0, row(at(10, 50), at(14, 50)), row(at(11, 50), at(13, 50))), 1, words{{may, may}, {may, may}}},
		{still(5, 0, 0, row(at(10, 50), at(14, 50)), row(at(11, 50), at(19, 50))), 1, words{{surely, never}, {never, surely}}},
		// the other one is left, so that it surely is the same one, though the first could be, too
		{still(5, 0, 0, row(at(10, 50), at(14, 50)), row(at(15, 50), at(19, 50))), 1, words{{surely, never}, {never, surely}}},
		{still(5, 1, 1, row(at(10, 50), at(14, 50)), row(at(15, 50), at(19, 50))), 1, words{{may, may}, {never, may}}},
		// 0 to 10 to 20 in two steps, but not to 21; so one that is at 21 was born
		{still(10, 1, 1, row(at(0, 50)), row(wide), row(at(21, 50))), 2, words{{may}}},
		{still(10, 1, 1, row(at(0, 50)), row(wide), row(at(21, 50))), 1, words{{may}}},
		{still(10, 0, 0, row(at(0, 50)), row(wide), row(at(20, 50))), 1, words{{surely}}},
		// maps without lows
		{still(1, 3, 3, row(), row(at(1, 1), at(2, 2))), 1, words{nil, nil}},
		{still(1, 3, 3, row(at(1, 1), at(2, 2)), row()), 1, nil},
		{still(1, 3, 3, row(at(1, 1)), row(at(3, 1))), 1, words{{never}}},
		// each low goes at its own Y, and is of its own depth
		{still(1, 1, 1, row(at(1, 1)), row(at(1, 3))), 1, words{{never}}},
		{still(1, 1, 1, row(spot(span(1, 1), span(1, 1), span(5, 5))), row(spot(span(1, 1), span(1, 1), span(6, 6)))), 1, words{{never}}},
		{still(0, 0, 0, row(at(1, 1)), row(at(1, 1))), 1, words{{surely}}},
	} {
		if list, e := low.Same(x.s, x.at); e != api.OK || !equal(list, x.want) {
			t.Error(i, list, e)
		}
	}
}

// TestBirthsAndEndsExamples is for P4.3.
func TestBirthsAndEndsExamples(t *testing.T) {
	bornOne := suiteS()
	bornOne.Born, bornOne.Gone = 1, 2
	for i, x := range []struct {
		s            api.LowSuite
		births, ends words
	}{
		{suiteS(), words{{never, never}, {never}}, words{{never, never}, {may, may}}},
		{bornOne, words{{may, may}, {may}}, words{{may, may}, {may, may}}},
		{cut(suiteS(), 1), nil, nil},
		{still(1, 3, 3, row(), row(at(1, 1), at(2, 2))), words{{surely, surely}}, words{nil}},
		{still(1, 3, 3, row(at(1, 1), at(2, 2)), row()), words{nil}, words{{surely, surely}}},
		{still(1, 3, 3, row(at(1, 1)), row(), row(at(1, 1))), words{nil, {surely}}, words{{surely}, nil}},
		{still(1, 3, 3, row(at(1, 1)), row(at(3, 1))), words{{surely}}, words{{surely}}},
		{still(1, 3, 3, row(at(1, 1)), row(at(2, 1))), words{{may}}, words{{may}}},
		{still(1, 3, 0, row(at(1, 1)), row(at(2, 1))), words{{never}}, words{{never}}},
		{still(1, 0, 3, row(at(1, 1)), row(at(2, 1))), words{{never}}, words{{never}}},
		// one of two is born, but not both
		{still(5, 1, 0, row(at(1, 1)), row(at(2, 1), at(3, 1))), words{{may, may}}, words{{never}}},
		{still(5, 0, 1, row(at(2, 1), at(3, 1)), row(at(1, 1))), words{{never}}, words{{may, may}}},
	} {
		if list, e := low.Births(x.s); e != api.OK || !equal(list, x.births) {
			t.Error(i, list, e)
		}
		if list, e := low.Ends(x.s); e != api.OK || !equal(list, x.ends) {
			t.Error(i, list, e)
		}
	}
}

// TestPathsExamples is for P4.4.
func TestPathsExamples(t *testing.T) {
	near := still(5, 9, 9, row(at(1, 1), at(2, 1)), row(at(1, 1), at(2, 1)), row(at(1, 1)))
	wide := spot(span(0, 20), span(50, 50), span(0, 99999))
	for i, x := range []struct {
		s       api.LowSuite
		at, low int
		want    [][]int
	}{
		{suiteS(), 0, 0, [][]int{{0, 0}, {0, 0, 0}}},
		{suiteS(), 0, 1, [][]int{{1, 1}, {1, 1, 0}}},
		{suiteS(), 1, 1, [][]int{{1}, {1, 0}}},
		{suiteS(), 2, 0, [][]int{{0}}},
		{near, 0, 0, [][]int{{0}, {0, 0}, {0, 0, 0}, {0, 1}, {0, 1, 0}}},
		{near, 0, 1, [][]int{{1}, {1, 0}, {1, 0, 0}, {1, 1}, {1, 1, 0}}},
		{near, 1, 1, [][]int{{1}, {1, 0}}},
		{cut(near, 1), 0, 1, [][]int{{1}}},
		// 0 to 10 to 20, but not to 21
		{still(10, 0, 0, row(at(0, 50)), row(wide), row(at(20, 50))), 0, 0, [][]int{{0, 0, 0}}},
		{still(10, 1, 1, row(at(0, 50)), row(wide), row(at(21, 50))), 0, 0, [][]int{{0}, {0, 0}}},
		{still(10, 1, 1, row(at(0, 50)), row(wide), row(at(21, 50))), 1, 0, [][]int{{0}, {0, 0}}},
	} {
		if list, e := low.Paths(x.s, x.at, x.low); e != api.OK || !equal(list, x.want) {
			t.Error(i, list, e)
		}
	}
}

// TestWhereExamples is for P4.5.
func TestWhereExamples(t *testing.T) {
	wide := spot(span(0, 20), span(40, 60), span(0, 99999))
	deep := still(0, 0, 0, row(spot(span(1, 1), span(1, 1), span(500, 600))), row(spot(span(1, 1), span(1, 1), span(0, 99999))), row(spot(span(1, 1), span(1, 1), span(560, 900))))
	deep.Deepen = 20
	for i, x := range []struct {
		s       api.LowSuite
		at, low int
		want    api.LowSpot
	}{
		{suiteS(), 1, 0, spot(span(20, 21), span(50, 52), span(74100, 74300))},
		{suiteS(), 2, 0, spot(span(31, 33), span(52, 53), span(74200, 74900))},
		{suiteS(), 0, 0, spot(span(8, 9), span(50, 50), span(74000, 74200))},
		{cut(suiteS(), 1), 0, 1, suiteS().Maps[0].Spots[1]},
		// from one map before, and one after
		{still(10, 0, 0, row(at(5, 50)), row(wide), row(at(20, 55))), 1, 0, spot(span(10, 15), span(45, 60), span(0, 99999))},
		{still(10, 0, 0, row(at(0, 50)), row(wide), row(at(20, 50))), 1, 0, spot(span(10, 10), span(40, 60), span(0, 99999))},
		{deep, 0, 0, spot(span(1, 1), span(1, 1), span(520, 600))},
		{deep, 1, 0, spot(span(1, 1), span(1, 1), span(540, 620))},
		{deep, 2, 0, spot(span(1, 1), span(1, 1), span(560, 640))},
		// over two maps
		{still(1, 0, 0, row(anywhere()), row(anywhere()), row(anywhere()), row(at(50, 60))), 0, 0, spot(span(47, 53), span(57, 63), span(0, 99999))},
		{still(1, 0, 0, row(at(50, 60)), row(anywhere()), row(anywhere()), row(anywhere())), 3, 0, spot(span(47, 53), span(57, 63), span(0, 99999))},
		// it can be the same as either of two, or as none
		{still(1, 0, 1, row(at(10, 5), at(20, 9)), row(anywhere())), 1, 0, spot(span(9, 21), span(4, 10), span(0, 99999))},
		{still(1, 1, 2, row(at(10, 5), at(20, 9)), row(anywhere())), 1, 0, anywhere()},
	} {
		if where, e := low.Where(x.s, x.at, x.low); e != api.OK || where != x.want {
			t.Error(i, where, e)
		}
	}
}

// TestAheadExamples is for P4.5.
func TestAheadExamples(t *testing.T) {
	edge := suiteS()
	edge.Maps = edge.Maps[:1]
	for i, x := range []struct {
		s          api.LowSuite
		low, hours int
		want       api.LowSpot
	}{
		{suiteS(), 0, 3, spot(span(25, 39), span(46, 59), span(74050, 75050))},
		{suiteS(), 0, 0, spot(span(31, 33), span(52, 53), span(74200, 74900))},
		{suiteS(), 0, 200, spot(span(0, 100), span(0, 100), span(64200, 84900))},
		{edge, 0, 4, spot(span(0, 17), span(42, 58), span(73800, 74400))},
		{edge, 0, 5, spot(span(0, 19), span(40, 60), span(73750, 74450))},
		{edge, 1, 35, spot(span(0, 100), span(0, 100), span(73250, 76850))},
		{edge, 1, 24, spot(span(0, 78), span(4, 100), span(73800, 76300))},
		{still(0, 0, 0, row(at(7, 8))), 0, 200, at(7, 8)},
		{api.LowSuite{Deepen: 1000, Maps: []api.LowMap{chart(200, spot(span(0, 0), span(0, 0), span(50, 60)))}}, 0, 1, spot(span(0, 0), span(0, 0), span(0, 1060))},
		{api.LowSuite{Deepen: 1000, Maps: []api.LowMap{chart(200, spot(span(0, 0), span(0, 0), span(98999, 98999)))}}, 0, 1, spot(span(0, 0), span(0, 0), span(97999, 99999))},
		{api.LowSuite{Deepen: 1000, Maps: []api.LowMap{chart(200, spot(span(0, 0), span(0, 0), span(99001, 99998)))}}, 0, 1, spot(span(0, 0), span(0, 0), span(98001, 99999))},
	} {
		if where, e := low.Ahead(x.s, x.low, x.hours); e != api.OK || where != x.want {
			t.Error(i, where, e)
		}
	}
}

// TestFewestExamples is for P4.6.
func TestFewestExamples(t *testing.T) {
	bornOne := suiteS()
	bornOne.Born, bornOne.Gone = 1, 2
	for i, x := range []struct {
		s     api.LowSuite
		want  int
		links [][]int
	}{
		{suiteS(), 2, [][]int{{-1, -1}, {0, 1}, {0}}},
		{bornOne, 2, [][]int{{-1, -1}, {0, 1}, {0}}},
		{cut(suiteS(), 1), 2, [][]int{{-1, -1}}},
		{still(0, 0, 0, row()), 0, [][]int{nil}},
		{still(0, 9, 9, row(), row(at(1, 1)), row(at(1, 1), at(1, 1))), 2, [][]int{nil, {-1}, {-1, 0}}},
		{still(0, 9, 9, row(at(1, 1)), row(at(2, 1)), row(at(2, 1), at(2, 1))), 3, [][]int{{-1}, {-1}, {-1, 0}}},
		{still(5, 9, 9, row(at(1, 1), at(1, 1)), row(at(1, 1), at(1, 1)), row(at(2, 1))), 2, [][]int{{-1, -1}, {0, 1}, {0}}},
		// the low 0 surely is the low 1 of the map before
		{still(5, 9, 9, row(at(1, 1), at(7, 1)), row(at(12, 1), at(1, 1))), 2, [][]int{{-1, -1}, {1, 0}}},
		// not the first links that there are, nor as few as each two maps have
		{still(10, 9, 9, row(at(0, 50)), row(spot(span(0, 20), span(50, 50), span(0, 99999))), row(at(21, 50))), 2, [][]int{{-1}, {-1}, {0}}},
		{widest(), 3, [][]int{{-1, -1, -1}, {0, 1, 2}, {0, 1, 2}, {0, 1, 2}}},
	} {
		if n, links, e := low.Fewest(x.s); e != api.OK || n != x.want || !equal(links, x.links) {
			t.Error(i, n, links, e)
		}
	}
}

// TestSpeedExamples is for P4.6.
func TestSpeedExamples(t *testing.T) {
	slow, fast := suiteS(), suiteS()
	slow.Speed, fast.Speed = 0, 50
	for i, x := range []struct {
		s    api.LowSuite
		want int
		e    api.Errno
	}{
		{suiteS(), 2, api.OK},
		{slow, 2, api.OK},
		{fast, 2, api.OK},
		{torn(), 11, api.OK},
		{widest(), 0, api.OK},
		{still(7, 0, 0, row(at(0, 0)), row(at(50, 50))), 50, api.OK},
		{still(50, 0, 0, row(at(0, 0)), row(at(50, 51))), 0, api.ErrNone},
		{still(50, 1, 1, row(at(0, 0)), row(at(50, 51))), 0, api.OK},
		{still(50, 0, 9, row(), row(at(50, 51))), 0, api.ErrNone},
		{still(3, 0, 0, row(at(0, 0)), row(at(1, 1))), 1, api.OK},
		{still(3, 0, 0, row(spot(span(0, 0), span(0, 0), span(0, 0))), row(spot(span(0, 0), span(0, 0), span(1, 1)))), 0, api.ErrNone},
	} {
		if speed, e := low.Speed(x.s); speed != x.want || e != x.e {
			t.Error(i, speed, e)
		}
	}
}

// TestErrors is for P4.2 to P4.6: what is not as defined, maps that are not possible, and the order of errors.
func TestErrors(t *testing.T) {
	type question struct {
		s       api.LowSuite
		at, low int
		hours   int
		want    api.Errno
	}
	list := []question{{torn(), 1, 0, 3, api.ErrRule}, {torn(), 2, 0, 0, api.ErrRule}}
	for _, s := range wrongSuites() {
		list = append(list, question{s, 1, 0, 3, api.ErrArg}, question{s, -1, -1, -1, api.ErrArg})
	}
	for i, x := range list {
		if l, e := low.Same(x.s, x.at); len(l) > 0 || e != x.want {
			t.Error(i, l, e)
		}
		if l, e := low.Births(x.s); len(l) > 0 || e != x.want {
			t.Error(i, l, e)
		}
		if l, e := low.Ends(x.s); len(l) > 0 || e != x.want {
			t.Error(i, l, e)
		}
		if l, e := low.Paths(x.s, x.at, x.low); len(l) > 0 || e != x.want {
			t.Error(i, l, e)
		}
		if k, e := low.Where(x.s, x.at, x.low); k != (api.LowSpot{}) || e != x.want {
			t.Error(i, k, e)
		}
		if k, e := low.Ahead(x.s, x.low, x.hours); k != (api.LowSpot{}) || e != x.want {
			t.Error(i, k, e)
		}
		if n, l, e := low.Fewest(x.s); n != 0 || len(l) > 0 || e != x.want {
			t.Error(i, n, l, e)
		}
		if n, e := low.Speed(x.s); x.want == api.ErrArg && (n != 0 || e != x.want) {
			t.Error(i, n, e)
		}
	}
	for _, s := range []api.LowSuite{suiteS(), torn()} {
		for _, n := range []int{-1, 0, 3, 4, 100} {
			if l, e := low.Same(s, n); len(l) > 0 || e != api.ErrArg {
				t.Error(n, l, e)
			}
		}
		for _, n := range [][2]int{{-1, 0}, {3, 0}, {0, -1}, {2, 1}, {1, 2}, {4, 0}, {-5, -5}} {
			if l, e := low.Paths(s, n[0], n[1]); len(l) > 0 || e != api.ErrArg {
				t.Error(n, l, e)
			}
			if k, e := low.Where(s, n[0], n[1]); k != (api.LowSpot{}) || e != api.ErrArg {
				t.Error(n, k, e)
			}
		}
		for _, n := range [][2]int{{-1, 0}, {1, 0}, {0, -1}, {0, 201}, {3, 300}} {
			if k, e := low.Ahead(s, n[0], n[1]); k != (api.LowSpot{}) || e != api.ErrArg {
				t.Error(n, k, e)
			}
		}
	}
	for _, n := range []int{0, 1} {
		if l, e := low.Same(cut(suiteS(), 1), n); len(l) > 0 || e != api.ErrArg {
			t.Error(n, l, e)
		}
	}
	if k, e := low.Ahead(still(1, 9, 9, row(at(1, 1)), row()), 0, 3); k != (api.LowSpot{}) || e != api.ErrArg {
		t.Error(k, e)
	}
}

// wordsOf returns the words for some lists of facts.
func (k *known) wordsOf(facts [][]fact) words {
	var list words
	for _, row := range facts {
		list = append(list, nil)
		for _, f := range row {
			list[len(list)-1] = append(list[len(list)-1], k.word(f))
		}
	}
	return list
}

// allFacts returns the facts of which Same tells on each map but the first one, and those of Births and Ends.
func allFacts(s api.LowSuite) [][][]fact {
	var all [][][]fact
	births, ends := make([][]fact, len(s.Maps)-1), make([][]fact, len(s.Maps)-1)
	for i := 1; i < len(s.Maps); i++ {
		same := make([][]fact, len(s.Maps[i].Spots))
		for j := range s.Maps[i].Spots {
			births[i-1] = append(births[i-1], fact{i, j, -1})
			for before := range s.Maps[i-1].Spots {
				same[j] = append(same[j], fact{i, j, before})
			}
		}
		for before := range s.Maps[i-1].Spots {
			ends[i-1] = append(ends[i-1], fact{i, -1, before})
		}
		all = append(all, same)
	}
	return append(all, births, ends)
}

// holdAgainst checks that the functions say of a suite what is known of it.
func holdAgainst(t *testing.T, s api.LowSuite, k known) {
	got, list, e := askAbout(s)
	if k.all == 0 {
		if e != api.ErrRule {
			t.Fatal(s, got, e)
		}
		return
	}
	if e != api.OK || got.fewest != k.fewest || !equal(got.links, k.links) || !equal(got.spots, k.spots) {
		t.Fatal(s, got, k, e)
	}
	for low, paths := range k.paths {
		slices.SortFunc(paths, slices.Compare)
		if !equal(got.paths[low], paths) {
			t.Fatal(s, low, got.paths[low], paths)
		}
	}
	for i, facts := range allFacts(s) {
		if want := k.wordsOf(facts); !equal(list[i], want) {
			t.Fatal(s, i, list[i], want)
		}
	}
}

// mixture counts how many suites were possible, and how often each word was said.
type mixture struct {
	suites, possible int
	words            map[api.LowWord]int
}

// add adds a suite.
func (m *mixture) add(s api.LowSuite, k known) {
	m.suites++
	if k.all == 0 {
		return
	}
	m.possible++
	for _, facts := range allFacts(s) {
		for _, row := range k.wordsOf(facts) {
			for _, w := range row {
				m.words[w]++
			}
		}
	}
}

// check checks that there is enough of everything.
func (m *mixture) check(t *testing.T) {
	if m.possible < 200 || m.suites-m.possible < 50 || m.words[never] < 200 || m.words[may] < 200 || m.words[surely] < 200 {
		t.Error("the suites are not mixed enough:", *m)
	}
}

// TestAllTruths is for P4.2 to P4.6 and P0.4: all truths of small suites are gone through.
func TestAllTruths(t *testing.T) {
	d := dice(43)
	m := mixture{words: map[api.LowWord]int{}}
	for range 1500 {
		s := d.suite(d.small())
		k := fromTruths(s)
		m.add(s, k)
		holdAgainst(t, s, k)
	}
	m.check(t)
}

// TestAllLinks is for P4.2 to P4.6 and P0.4: all links of larger suites are gone through.
func TestAllLinks(t *testing.T) {
	d := dice(44)
	m := mixture{words: map[api.LowWord]int{}}
	for range 800 {
		c := d.large()
		c.maps = d.from(2, 4)
		if c.maps == 4 {
			c.lows = d.from(2, 3)
		}
		s := d.suite(c)
		k := fromLinks(s)
		m.add(s, k)
		holdAgainst(t, s, k)
	}
	m.check(t)
}

// TestSpeedTried is for P4.6: with each lesser speed the maps are not possible, and with each greater one they are.
func TestSpeedTried(t *testing.T) {
	d := dice(45)
	counts := map[api.Errno]int{}
	for range 150 {
		c := d.large()
		c.maps, c.off, c.spareBorn, c.spareGone = d.from(2, 3), 60, 0, 0
		s := d.suite(c)
		speed, e := low.Speed(s)
		counts[e]++
		for n := range 51 {
			s.Speed = n
			if isPossible(s) != (e == api.OK && n >= speed) {
				t.Fatal(s, speed, e)
			}
		}
	}
	if counts[api.OK] < 40 || counts[api.ErrNone] < 10 {
		t.Error("the suites are not mixed enough:", counts)
	}
}
