package bureau

import (
	"strings"

	"isobar/api"
)

// numberDigits is how many digits a number of a line can have.
const numberDigits = 9

// unreadable is what the reader of a line gives up with.
type unreadable struct{}

// must gives up the reading of a line if something that holds for all such lines does not hold.
func must(holds bool) {
	if !holds {
		panic(unreadable{})
	}
}

// reader reads the words that are left of a line.
type reader struct {
	words []string
}

// question is what a clerk can ask a Bureau; it returns numbers.
type question func(b *Bureau) ([]int, api.Errno)

// acts returns how the lines of acts are read behind their first words.
func acts() map[string]func(*reader) act {
	return map[string]func(*reader) act{
		wordRead:   (*reader).reading,
		wordWire:   (*reader).telegram,
		wordShip:   (*reader).shipLog,
		wordReport: (*reader).report,
		wordState:  (*reader).statement,
		wordCame:   (*reader).verification,
	}
}

// questions returns how the lines of questions are read behind their first words.
func questions() map[string]func(*reader) question {
	return map[string]func(*reader) question{
		"draw":  (*reader).draw,
		"low":   (*reader).low,
		"high":  (*reader).high,
		"see":   (*reader).see,
		"up":    (*reader).up,
		"ships": (*reader).ships,
		"total": (*reader).total,
		"pay":   (*reader).pay,
		"cost":  (*reader).cost,
	}
}

// readAs returns what a line is read as, and whether it is one of the lines that are read in some ways.
func readAs[T any](row string, ways map[string]func(*reader) T) (made T, is bool) {
	defer func() {
		if _, gave := recover().(unreadable); gave {
			is = false
		}
	}()
	list := strings.Split(row, " ")
	way, found := ways[list[0]]
	// A COPY can be any word, but no line goes on behind a line feed.
	must(found && !strings.Contains(row, "\n"))
	return way(&reader{list[1:]}), true
}

// number returns the number that a word is.
func number(word string) int {
	digits, minus := strings.CutPrefix(word, "-")
	must(digits != "" && len(digits) <= numberDigits)
	must(digits[0] != '0' || word == "0")
	n := 0
	for _, c := range digits {
		must('0' <= c && c <= '9')
		n = 10*n + int(c-'0')
	}
	if minus {
		return -n
	}
	return n
}

// numbers returns the numbers that the next words are.
func (r *reader) numbers(count int) []int {
	must(len(r.words) >= count)
	var list []int
	for _, word := range r.words[:count] {
		list = append(list, number(word))
	}
	r.words = r.words[count:]
	return list
}

// last returns the numbers that all words that are left are, and gives up if there are not just as many.
func (r *reader) last(count int) []int {
	must(len(r.words) == count)
	return r.numbers(count)
}

// more returns how many words are left, and gives up if there are none.
func (r *reader) more() int {
	must(len(r.words) > 0)
	return len(r.words)
}

func (r *reader) reading() act {
	n := r.last(11)
	return reading{n[0], api.GlassReading{
		Day: n[1], Minute: n[2], Clock: api.GlassClock(n[3]), Mercury: n[4],
		Attached: span(n[5], n[6]), Dry: span(n[7], n[8]), Wet: span(n[9], n[10]),
	}}
}

func (r *reader) telegram() act {
	n := r.numbers(2)
	copies := make([][]string, r.more())
	for i, word := range r.words {
		must(word != "")
		copies[i] = strings.Split(word, groupMark)
	}
	return telegram{n[0], n[1], copies}
}

func (r *reader) shipLog() act {
	n := r.last(5)
	return shipLog{n[0], n[1], n[2], span(n[3], n[4])}
}

func (r *reader) report() act {
	n := r.last(7)
	return report{api.ConeReport{
		Station: n[0], Taken: n[1], Pressure: n[2], Delay: span(n[3], n[4]), Urgent: n[5], Cost: n[6],
	}}
}

func (r *reader) statement() act {
	n := r.numbers(2)
	return statement{n[0], n[1], r.numbers(r.more())}
}

func (r *reader) verification() act {
	n := r.last(3)
	return verification{n[0], n[1], n[2]}
}

func (r *reader) draw() question {
	n := r.last(1)
	return func(b *Bureau) ([]int, api.Errno) {
		f, e := b.Draw(n[0])
		return f.Values, e
	}
}

func (r *reader) low() question {
	return r.closed((*Bureau).Low)
}

func (r *reader) high() question {
	return r.closed((*Bureau).High)
}

// closed returns the question whether a point lies in a closed low, or a closed high.
func (r *reader) closed(ask func(b *Bureau, day, point, level int) (api.ChartWord, api.Errno)) question {
	n := r.last(3)
	return func(b *Bureau) ([]int, api.Errno) {
		word, e := ask(b, n[0], n[1], n[2])
		return []int{int(word)}, e
	}
}

func (r *reader) see() question {
	r.last(0)
	return func(b *Bureau) ([]int, api.Errno) {
		can, sure, e := b.See()
		return []int{can, sure}, e
	}
}

func (r *reader) up() question {
	n := r.last(2)
	return func(b *Bureau) ([]int, api.Errno) {
		word, e := b.Up(n[0], n[1])
		return []int{int(word)}, e
	}
}

func (r *reader) ships() question {
	n := r.last(1)
	return func(b *Bureau) ([]int, api.Errno) {
		return b.Ships(n[0])
	}
}

func (r *reader) total() question {
	return r.ends((*Bureau).Total)
}

func (r *reader) pay() question {
	return r.ends((*Bureau).Pay)
}

// ends returns the question for both ends of a span.
func (r *reader) ends(ask func(b *Bureau) (api.Span, api.Errno)) question {
	r.last(0)
	return func(b *Bureau) ([]int, api.Errno) {
		s, e := ask(b)
		return []int{s.Low, s.High}, e
	}
}

func (r *reader) cost() question {
	r.last(0)
	return func(b *Bureau) ([]int, api.Errno) {
		n, e := b.Cost()
		return []int{n}, e
	}
}
