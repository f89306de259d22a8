package wire_test

import (
	"slices"
	"testing"

	"isobar/api"
	"isobar/wire"
)

// TestCheck is for P2.1.
func TestCheck(t *testing.T) {
	for i, c := range []api.WireCode{code(), plain(1), plain(2), plain(3), anything(3, 2), {Fields: []api.Span{{}}, Turns: make([]int, 10)}} {
		if e := wire.Check(c); e != api.OK {
			t.Error(i, e)
		}
	}
	for i, c := range wrongCodes() {
		if e := wire.Check(c); e != api.ErrArg {
			t.Error(i, e)
		}
	}
	if e := wire.Check(api.WireCode{}); e != api.ErrArg {
		t.Error(e)
	}
}

// TestSendExamples is for P2.1.
func TestSendExamples(t *testing.T) {
	for i, x := range []struct {
		c       api.WireCode
		message []int
		want    string
	}{
		{code(), []int{75810, 27030}, copyB},
		{code(), []int{75310, 27030}, "75310 27030 92340"},
		{code(), []int{73000, 0}, "73000 00000 73000"},
		{code(), []int{78000, 35999}, "78000 35999 03999"},
		{plain(1), []int{0}, "00000 00000"},
		{plain(1), []int{907}, "00907 00907"},
		{plain(3), []int{99999, 99999, 99999}, "99999 99999 99999 77777"},
		{plain(3), []int{12345, 678, 90000}, "12345 00678 90000 02913"},
	} {
		if g, e := wire.Send(x.c, x.message); e != api.OK || !slices.Equal(g, words(x.want)) {
			t.Error(i, g, e)
		}
	}
}

// TestSendErrors is for P2.1.
func TestSendErrors(t *testing.T) {
	for i, c := range wrongCodes() {
		if g, e := wire.Send(c, []int{75810, 27030}); e != api.ErrArg || len(g) > 0 {
			t.Error(i, g, e)
		}
		if can, e := wire.Can(c, []int{75810, 27030}, words(copyB)); e != api.ErrArg || can {
			t.Error(i, can, e)
		}
	}
	for i, message := range wrongMessages() {
		if g, e := wire.Send(code(), message); e != api.ErrArg || len(g) > 0 {
			t.Error(i, g, e)
		}
		if can, e := wire.Can(code(), message, words(copyB)); e != api.ErrArg || can {
			t.Error(i, can, e)
		}
	}
	for i, garbled := range wrongCopies() {
		if can, e := wire.Can(code(), []int{75810, 27030}, garbled); e != api.ErrArg || can {
			t.Error(i, can, e)
		}
	}
}

// TestCanExamples is for P2.1.
func TestCanExamples(t *testing.T) {
	// a 2 can be received as a 5, but not a 5 as a 2; and a 4 as itself, which is not wrong
	oneWay := plain(2)
	oneWay.Turns[2], oneWay.Turns[4], oneWay.Most = 1<<5, 1<<4, 2
	exact := code()
	exact.Most = 0
	for i, x := range []struct {
		c       api.WireCode
		message []int
		garbled string
		want    bool
	}{
		{code(), []int{75810, 27030}, copyA, true},
		{code(), []int{75310, 27030}, copyA, true},
		{code(), []int{75310, 27030}, copyB, false},
		{code(), []int{75810, 27030}, copyB, true},
		{code(), []int{75810, 27030}, copyD, false},
		{code(), []int{75810, 27030}, "?5810 27?30 92840", true},
		{code(), []int{75810, 27030}, "?5810 27?30 92340", true},
		{code(), []int{75810, 27030}, "?5810 27?80 92340", false},
		{code(), []int{75810, 27030}, "75?10 27080 92340", false},
		{code(), []int{75810, 27030}, "75?10 27080 92?40", true},
		{code(), []int{75810, 27030}, "15810 27030 92840", true},
		{code(), []int{75810, 27030}, "75870 27030 92840", true},
		{code(), []int{75810, 27030}, "75811 27030 92840", false},
		{exact, []int{75810, 27030}, copyA, false},
		{exact, []int{75810, 27030}, "75?10 27030 92?40", true},
		{oneWay, []int{22225, 44444}, "55225 44444 66669", true},
		{oneWay, []int{22225, 44444}, "55525 44444 66669", false},
		{oneWay, []int{22225, 44444}, "22222 44444 66669", false},
		{oneWay, []int{22225, 44444}, "22225 44444 66669", true},
	} {
		if can, e := wire.Can(x.c, x.message, words(x.garbled)); e != api.OK || can != x.want {
			t.Error(i, can, e)
		}
	}
}

// TestCanGarbled is for P2.1: what was sent, garbled within the code or not, can have come from the message; of other copies it is told.
func TestCanGarbled(t *testing.T) {
	d := dice(21)
	yes, no := 0, 0
	for range 20000 {
		c, message := d.anyCode(1+d.IntN(3), 3000)
		g, e := wire.Send(c, message)
		if e != api.OK || !slices.Equal(g, sent(message)) {
			t.Fatal(c, message, g, e)
		}
		for _, garbled := range [][]string{g, d.garble(c, message)} {
			if can, e := wire.Can(c, message, garbled); e != api.OK || !can {
				t.Fatal(c, message, garbled, can, e)
			}
		}
		other := slices.Clone(message)
		other[d.IntN(len(other))] = d.of(c.Fields[0])
		garbled := d.garble(anything(len(message), 2), message)
		if wire.Check(c) != api.OK {
			t.Fatal(c)
		}
		can, e := wire.Can(c, message, garbled)
		if e != api.OK || can != canCome(c, message, garbled) {
			t.Fatal(c, message, garbled, can, e)
		}
		if can {
			yes++
		} else {
			no++
		}
	}
	if yes < 1000 || no < 1000 {
		t.Error("too few of both kinds:", yes, no)
	}
}
