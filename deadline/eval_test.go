package deadline_test

import (
	"math"
	"math/rand"
	"slices"
	"testing"
	"time"

	"estoppel/api"
	"estoppel/deadline"
)

// lastDay is the last day number.
const lastDay = 73048

// week returns the calendar with the weekend Saturday and Sunday.
func week() api.Calendar { return api.Calendar{Weekend: [7]bool{5: true, 6: true}} }

// numbers returns the numbers from one on before another one.
func numbers(from, to int) []int {
	var all []int
	for i := from; i < to; i++ {
		all = append(all, i)
	}
	return all
}

// calendars returns valid calendars: with few holidays and weekdays off, and with many, at both ends and between.
func calendars() map[string]api.Calendar {
	var mondays []int
	for day := 35000; day < 37800; day += 7 {
		mondays = append(mondays, day)
	}
	return map[string]api.Calendar{
		"all":            {},
		"empty":          {Holidays: []int{}},
		"week":           week(),
		"holiday":        {Weekend: [7]bool{5: true, 6: true}, Holidays: []int{14}},
		"holidays":       {Weekend: [7]bool{6: true}, Holidays: []int{0, 1, 3, 5, 8, 13, 21, 34, 55, 365, 36500, 36501, 36502, 73000, 73047}},
		"first days":     {Weekend: [7]bool{5: true, 6: true}, Holidays: numbers(0, 400)},
		"last days":      {Weekend: [7]bool{5: true, 6: true}, Holidays: numbers(lastDay+1-400, lastDay+1)},
		"only Mondays":   {Weekend: [7]bool{false, true, true, true, true, true, true}, Holidays: mondays},
		"only Thursdays": {Weekend: [7]bool{true, true, true, false, true, true, true}},
		"last of all":    {Weekend: [7]bool{3: true}, Holidays: []int{73042, 73046, 73047}},
	}
}

// noCalendars returns calendars that are not valid.
func noCalendars() []api.Calendar {
	return []api.Calendar{
		{Weekend: [7]bool{true, true, true, true, true, true, true}}, {Holidays: []int{-1}}, {Holidays: []int{lastDay + 1}}, {Holidays: []int{5, 5}}, {Holidays: []int{5, 4}}, {Holidays: numbers(0, 401)},
	}
}

// noEvents returns events that are not valid.
func noEvents() []api.When {
	return []api.When{
		on(-1, 0), on(0, -1), on(lastDay+1, 0), on(0, 1440), on(-1, -1), on(math.MinInt, 0), on(math.MaxInt, 0), on(5, math.MinInt), on(5, math.MaxInt), on(1<<32, 0), on(5, 1<<32),
	}
}

// plain finds days by trying one after the other.
type plain struct {
	business [lastDay + 1]bool
}

// planned returns what finds the days of a calendar.
func planned(c api.Calendar) *plain {
	p := &plain{}
	for day := range p.business {
		p.business[day] = !c.Weekend[day%7]
	}
	for _, day := range c.Holidays {
		p.business[day] = false
	}
	return p
}

// after returns the n-th business day after a day, or for n = 0 the first one from it on; after the last one, lastDay + 1.
func (p *plain) after(day, n int) int {
	if n > 0 {
		day++
	}
	for n = max(n, 1); day <= lastDay; day++ {
		if p.business[day] {
			n--
		}
		if n == 0 {
			break
		}
	}
	return day
}

// monthsAfter returns the day that is a number of months later; it can be after the last day.
func monthsAfter(day, number int) int {
	zero := time.Date(1990, 1, 1, 0, 0, 0, 0, time.UTC)
	date := zero.AddDate(0, 0, day)
	begin := time.Date(date.Year(), date.Month()+time.Month(number), 1, 0, 0, 0, 0, time.UTC)
	end := begin.AddDate(0, 1, -1)
	// time.Sub cannot tell more than 292 years apart.
	return int((end.Unix()-zero.Unix())/86400) - end.Day() + min(date.Day(), end.Day())
}

// day returns the day of a valid term whose events are known, and whether it and the days of all of its nodes are in range.
func (p *plain) day(t api.Term, events []api.When) (int, bool) {
	var kids []int
	for _, kid := range t.Kids {
		day, ok := p.day(kid, events)
		if !ok {
			return 0, false
		}
		kids = append(kids, day)
	}
	day := 0
	switch t.Kind {
	case api.TermDay:
		day = t.N
	case api.TermEvent:
		day = events[t.Event].Day
	case api.TermCut:
		day = events[t.Event].Day + (1440+events[t.Event].Minute-t.N)/1440
	case api.TermPlus:
		day = kids[0] + t.N
		if t.Business {
			day = p.after(kids[0], t.N)
		}
	case api.TermMonths:
		day = monthsAfter(kids[0], t.N)
	case api.TermNext:
		day = p.after(kids[0], 0)
	case api.TermMin:
		day = slices.Min(kids)
	case api.TermMax:
		day = slices.Max(kids)
	}
	return day, day <= lastDay
}

// evaluated is what Eval returns.
type evaluated struct {
	day   int
	known bool
	err   api.Errno
}

// eval calls Eval.
func eval(t api.Term, c api.Calendar, events []api.When) evaluated {
	day, known, err := deadline.Eval(t, c, events)
	return evaluated{day, known, err}
}

// valid returns what Eval must return for valid arguments.
func (p *plain) valid(t api.Term, events []api.When) evaluated {
	for _, i := range deadline.Events(t) {
		if !events[i].Known {
			return evaluated{}
		}
	}
	day, ok := p.day(t, events)
	if !ok {
		return evaluated{0, false, api.ErrRange}
	}
	return evaluated{day, true, api.OK}
}

// bounded is what Bounds returns.
type bounded struct {
	first, last int
	known       bool
	err         api.Errno
}

// bounds calls Bounds.
func bounds(t api.Term, c api.Calendar, low, high []api.When) bounded {
	first, last, known, err := deadline.Bounds(t, c, low, high)
	return bounded{first, last, known, err}
}

// someDay returns a day number, often one near an end.
func someDay(random *rand.Rand) int {
	switch random.Intn(6) {
	case 0:
		return random.Intn(30)
	case 1:
		return lastDay - random.Intn(30)
	case 2:
		return lastDay - random.Intn(5000)
	}
	return random.Intn(lastDay + 1)
}

// someNumber returns a number up to a limit, often a small one or the limit.
func someNumber(random *rand.Rand, most int) int {
	switch random.Intn(4) {
	case 0:
		return random.Intn(3)
	case 1:
		return most - random.Intn(2)
	}
	return random.Intn(most + 1)
}

// grower makes a valid term of nodes, of which some are left.
type grower struct {
	random *rand.Rand
	events int
	left   int
}

// term returns a term with paths of at most a number of nodes.
func (g *grower) term(path int) api.Term {
	g.left--
	if path == 1 || g.left <= 0 || g.random.Intn(5) == 0 {
		return g.leaf()
	}
	switch g.random.Intn(6) {
	case 0:
		return plus(someNumber(g.random, 1000), g.term(path-1))
	case 1:
		return business(someNumber(g.random, 1000), g.term(path-1))
	case 2:
		return months(someNumber(g.random, 120), g.term(path-1))
	case 3:
		return next(g.term(path - 1))
	}
	t := of(api.TermMin+g.random.Intn(2), 0, g.term(path-1))
	for g.left > 0 && g.random.Intn(4) > 0 {
		t.Kids = append(t.Kids, g.term(path-1))
	}
	return t
}

// leaf returns a term without kids.
func (g *grower) leaf() api.Term {
	if g.events == 0 || g.random.Intn(4) == 0 {
		return day(someDay(g.random))
	}
	i := g.random.Intn(g.events)
	if g.random.Intn(2) == 0 {
		return event(i)
	}
	return cut(i, someNumber(g.random, 1440))
}

// someTerm returns a term that is valid for a number of events.
func someTerm(random *rand.Rand, events int) api.Term {
	g := &grower{random, events, 1 + random.Intn(40)}
	return g.term(10)
}

// someEvents returns a number of valid events, of which each one out of some is not known.
func someEvents(random *rand.Rand, number, unknown int) []api.When {
	var all []api.When
	for range number {
		all = append(all, on(someDay(random), someNumber(random, 1439)))
		if random.Intn(unknown) == 0 {
			all[len(all)-1] = api.When{Day: random.Intn(3) - 1, Minute: 3000*random.Intn(3) - 3000}
		}
	}
	return all
}

// P5.1: the examples of the chapter.
func TestExamples(t *testing.T) {
	for i, test := range []struct {
		t    api.Term
		want int
	}{
		{cut(0, 960), 4}, {business(3, event(0)), 8}, {greatest(day(10), months(1, event(0))), 34}, {next(plus(2, event(0))), 7},
	} {
		if got := eval(test.t, week(), []api.When{on(3, 1000)}); got != (evaluated{test.want, true, api.OK}) {
			t.Error(i, got)
		}
	}
}

// P5.1, E2: terms of each kind.
func TestEval(t *testing.T) {
	events := []api.When{on(3, 1000), {}, on(30, 0), on(lastDay, 1439), on(lastDay, 0), on(0, 0), {Day: -5, Minute: 9999}}
	c := calendars()["holiday"]
	for i, test := range []struct {
		t    api.Term
		want evaluated
	}{
		{day(0), evaluated{0, true, api.OK}}, {day(7), evaluated{7, true, api.OK}}, {day(lastDay), evaluated{lastDay, true, api.OK}},
		{event(0), evaluated{3, true, api.OK}}, {event(5), evaluated{0, true, api.OK}}, {event(3), evaluated{lastDay, true, api.OK}}, {event(1), evaluated{}}, {event(6), evaluated{}},
		{cut(0, 999), evaluated{4, true, api.OK}}, {cut(0, 1000), evaluated{4, true, api.OK}}, {cut(0, 1001), evaluated{3, true, api.OK}}, {cut(0, 0), evaluated{4, true, api.OK}}, {cut(0, 1440), evaluated{3, true, api.OK}},
		{cut(5, 0), evaluated{1, true, api.OK}}, {cut(5, 1), evaluated{0, true, api.OK}}, {cut(3, 1440), evaluated{lastDay, true, api.OK}}, {cut(3, 1439), evaluated{0, false, api.ErrRange}}, {cut(4, 1), evaluated{lastDay, true, api.OK}}, {cut(4, 0), evaluated{0, false, api.ErrRange}}, {cut(1, 0), evaluated{}},
		{plus(0, event(0)), evaluated{3, true, api.OK}}, {plus(10, event(0)), evaluated{13, true, api.OK}}, {plus(1000, event(0)), evaluated{1003, true, api.OK}}, {plus(0, day(lastDay)), evaluated{lastDay, true, api.OK}}, {plus(1, day(lastDay)), evaluated{0, false, api.ErrRange}}, {plus(1000, day(lastDay-1000)), evaluated{lastDay, true, api.OK}}, {plus(1000, day(lastDay-999)), evaluated{0, false, api.ErrRange}},
		{business(3, event(0)), evaluated{8, true, api.OK}}, {business(7, event(0)), evaluated{15, true, api.OK}}, {business(0, day(12)), evaluated{15, true, api.OK}}, {business(1, day(12)), evaluated{15, true, api.OK}}, {business(1, day(11)), evaluated{15, true, api.OK}}, {business(0, day(11)), evaluated{11, true, api.OK}}, {business(0, day(lastDay)), evaluated{lastDay, true, api.OK}}, {business(1, day(lastDay)), evaluated{0, false, api.ErrRange}}, {business(1, day(lastDay-1)), evaluated{lastDay, true, api.OK}}, {business(2, day(lastDay-1)), evaluated{0, false, api.ErrRange}},
		{months(0, event(2)), evaluated{30, true, api.OK}}, {months(1, event(2)), evaluated{58, true, api.OK}}, {months(2, event(2)), evaluated{89, true, api.OK}}, {months(120, day(30)), evaluated{3682, true, api.OK}}, {months(1, day(lastDay)), evaluated{0, false, api.ErrRange}}, {months(0, day(lastDay)), evaluated{lastDay, true, api.OK}}, {months(1, day(lastDay-31)), evaluated{lastDay - 1, true, api.OK}},
		{next(day(14)), evaluated{15, true, api.OK}}, {next(day(12)), evaluated{15, true, api.OK}}, {next(day(11)), evaluated{11, true, api.OK}}, {next(event(1)), evaluated{}},
		{least(day(10)), evaluated{10, true, api.OK}}, {least(day(10), day(4), day(9)), evaluated{4, true, api.OK}}, {greatest(day(10), day(4), day(19)), evaluated{19, true, api.OK}}, {greatest(day(10)), evaluated{10, true, api.OK}}, {greatest(day(10), day(12), day(9)), evaluated{12, true, api.OK}},
		{least(event(2), event(0)), evaluated{3, true, api.OK}}, {greatest(event(5), cut(0, 5), event(5)), evaluated{4, true, api.OK}}, {next(greatest(least(day(20), day(11)), least(day(4), day(40)))), evaluated{11, true, api.OK}},
	} {
		if got := eval(test.t, c, events); got != test.want {
			t.Error(i, test.t, got, "instead of", test.want)
		}
	}
}

// P5.1, E2: the day of a node is out of range, although that of the term is not.
func TestNodesOutOfRange(t *testing.T) {
	events := []api.When{on(lastDay, 600), {}}
	c := calendars()["last days"]
	for i, late := range []api.Term{
		plus(1, day(lastDay)), plus(1000, event(0)), cut(0, 0), cut(0, 600), months(1, day(lastDay)), months(120, day(lastDay-300)), next(day(lastDay)), next(day(lastDay - 399)), business(0, event(0)), business(1, day(lastDay-400)), business(1000, day(lastDay-600)), plus(1, plus(1, day(lastDay))),
	} {
		for place, term := range []api.Term{late, least(day(1), late), least(late, day(1)), least(day(2), greatest(day(1), plus(3, late))), greatest(late, day(lastDay)), chain(5, least(late, day(1), day(2)))} {
			if got := eval(term, c, events); got != (evaluated{0, false, api.ErrRange}) {
				t.Error(i, place, got)
			}
			if got := bounds(term, c, events, events); got != (bounded{0, 0, false, api.ErrRange}) {
				t.Error(i, place, got)
			}
			// An event of the term that is not known comes first.
			for _, unknown := range []api.Term{least(term, event(1)), greatest(cut(1, 5), term)} {
				if got := eval(unknown, c, events); got != (evaluated{}) {
					t.Error(i, place, got)
				}
				if got := bounds(unknown, c, events, events); got != (bounded{}) {
					t.Error(i, place, got)
				}
			}
		}
	}
}

// P5.1, E2: many terms, calendars and events, against days that are found one after the other.
func TestManyTerms(t *testing.T) {
	for name, c := range calendars() {
		random := rand.New(rand.NewSource(11))
		p := planned(c)
		count := map[evaluated]int{}
		for range 4000 {
			events := someEvents(random, random.Intn(5), 12)
			term := someTerm(random, len(events))
			want := p.valid(term, events)
			if got := eval(term, c, events); got != want {
				t.Error(name, term, events, got, "instead of", want)
			}
			count[evaluated{0, want.known, want.err}]++
		}
		for _, want := range []evaluated{{0, true, api.OK}, {0, false, api.OK}, {0, false, api.ErrRange}} {
			if count[want] < 200 {
				t.Error(name, "has too few of", want, count)
			}
		}
	}
}

// P5.1, E2: 40 nodes and paths of 10 nodes are evaluated, and no more.
func TestEvalSizes(t *testing.T) {
	p := planned(week())
	for nodes := 2; nodes <= 45; nodes++ {
		for path := 2; path <= min(nodes, 13); path++ {
			for i, term := range sized(nodes, path) {
				want := evaluated{0, false, api.ErrArg}
				if nodes <= 40 && path <= 10 {
					want = p.valid(term, nil)
				}
				if got := eval(term, week(), nil); got != want {
					t.Error(nodes, path, i, got, want)
				}
			}
		}
	}
}

// P5.1, E2: 0 to 1000 events, and more.
func TestNumberOfEvents(t *testing.T) {
	for _, number := range []int{0, 1, 2, 999, 1000, 1001, 5000} {
		events := slices.Repeat([]api.When{on(8, 8)}, number)
		want := evaluated{1, true, api.OK}
		if number > 1000 {
			want = evaluated{0, false, api.ErrArg}
		}
		if got := eval(day(1), week(), events); got != want {
			t.Error(number, got)
		}
		if got := bounds(day(1), week(), events, events); got != (bounded{want.day, want.day, want.known, want.err}) {
			t.Error(number, got)
		}
		for _, i := range []int{-1, 0, number - 1, number, number + 1} {
			want := evaluated{8, true, api.OK}
			if number > 1000 || !between(i, 0, number-1) {
				want = evaluated{0, false, api.ErrArg}
			}
			if got := eval(event(i), week(), events); got != want {
				t.Error(number, i, got)
			}
		}
	}
}

// P5.1, E2, P1: arguments that are not valid, before all else.
func TestEvalArguments(t *testing.T) {
	refused := evaluated{0, false, api.ErrArg}
	terms := []api.Term{day(1), event(0), event(1), plus(1, day(lastDay))}
	for i, term := range terms {
		for j, c := range noCalendars() {
			if got := eval(term, c, []api.When{on(1, 1), {}}); got != refused {
				t.Error(i, "calendar", j, got)
			}
		}
		for _, w := range noEvents() {
			for place, events := range [][]api.When{{w, {}}, {on(1, 1), w}, {on(1, 1), {}, w}, {on(1, 1), {}, on(2, 2), w, {}}} {
				if got := eval(term, week(), events); got != refused {
					t.Error(i, w, place, got)
				}
			}
			w.Known = false
			if got, want := eval(term, week(), []api.When{on(1, 1), {}, w}), eval(term, week(), []api.When{on(1, 1), {}}); got != want {
				t.Error(i, w, got, want)
			}
		}
		for j, fault := range []api.Term{{}, day(-1), day(lastDay + 1), event(2), event(-1), cut(0, 1441), plus(-1, day(1)), months(121, day(1)), of(api.TermNext, 1, day(1)), least(), of(9, 0)} {
			for place, broken := range []api.Term{fault, least(term, fault), greatest(fault, term)} {
				if got := eval(broken, week(), []api.When{on(1, 1), {}}); got != refused {
					t.Error(i, j, place, got)
				}
			}
		}
	}
}

// spoilt returns a valid term after up to two changes of fields of its nodes, and whether it is valid for a number of events still.
func spoilt(random *rand.Rand, t api.Term, events int) (api.Term, bool) {
	t = copied(t)
	var nodes []*api.Term
	var collect func(n *api.Term)
	collect = func(n *api.Term) {
		nodes = append(nodes, n)
		for i := range n.Kids {
			collect(&n.Kids[i])
		}
	}
	collect(&t)
	for range random.Intn(3) {
		n := nodes[random.Intn(len(nodes))]
		switch random.Intn(5) {
		case 0:
			n.Kind = random.Intn(11) - 1
		case 1:
			n.N = []int{-1, 0, 1, 121, 1001, 1441, lastDay + 1}[random.Intn(7)]
		case 2:
			n.Event = random.Intn(events+3) - 1
		case 3:
			n.Business = !n.Business
		case 4:
			n.Kids = append(slices.Clone(n.Kids), day(5))[random.Intn(2):]
		}
	}
	nodes = nil
	collect(&t)
	return t, len(nodes) <= 40 && !slices.ContainsFunc(nodes, func(n *api.Term) bool { return !isNode(*n, events) }) && height(t) <= 10
}

// height returns the number of nodes on the longest paths of a term.
func height(t api.Term) int {
	below := 0
	for _, kid := range t.Kids {
		below = max(below, height(kid))
	}
	return 1 + below
}

// P1, P5.1, E1, E2, E3: terms of which some nodes were changed are refused exactly if they are not valid any more.
func TestSpoiltTerms(t *testing.T) {
	random := rand.New(rand.NewSource(31))
	p := planned(week())
	count := map[bool]int{}
	for range 20000 {
		events := someEvents(random, random.Intn(4), 10)
		term, ok := spoilt(random, someTerm(random, len(events)), len(events))
		want := evaluated{0, false, api.ErrArg}
		if ok {
			want = p.valid(term, events)
		}
		if got := eval(term, week(), events); got != want || deadline.Valid(term, len(events)) != ok {
			t.Error(term, events, got, want)
		}
		if got := bounds(term, week(), events, events); got != (bounded{want.day, want.day, want.known, want.err}) {
			t.Error(term, events, got, want)
		}
		count[ok]++
	}
	if count[true] < 5000 || count[false] < 5000 {
		t.Error("too few of", count)
	}
}

// P5.1, E2: the days and minutes at which events can be.
func TestEventLimits(t *testing.T) {
	for _, day := range []int{math.MinInt, -1, 0, 1, lastDay - 1, lastDay, lastDay + 1, math.MaxInt} {
		for _, minute := range []int{math.MinInt, -1, 0, 1, 1438, 1439, 1440, math.MaxInt} {
			want := evaluated{day, true, api.OK}
			if !between(day, 0, lastDay) || !between(minute, 0, 1439) {
				want = evaluated{0, false, api.ErrArg}
			}
			if got := eval(event(0), week(), []api.When{on(day, minute)}); got != want {
				t.Error(day, minute, got)
			}
		}
	}
}

// P5.1, E3: bounds of terms, and lists that do not fit together.
func TestBounds(t *testing.T) {
	hidden := api.When{Day: 9, Minute: 9}
	refused, late := bounded{0, 0, false, api.ErrArg}, bounded{0, 0, false, api.ErrRange}
	for i, test := range []struct {
		t         api.Term
		low, high []api.When
		want      bounded
	}{
		{next(event(0)), []api.When{on(4, 5)}, []api.When{on(5, 0)}, bounded{4, 7, true, api.OK}},
		{event(0), []api.When{on(0, 0)}, []api.When{on(lastDay, 1439)}, bounded{0, lastDay, true, api.OK}},
		{cut(0, 600), []api.When{on(4, 599)}, []api.When{on(4, 600)}, bounded{4, 5, true, api.OK}},
		{cut(0, 600), []api.When{on(4, 600)}, []api.When{on(4, 600)}, bounded{5, 5, true, api.OK}},
		{least(event(0), event(1)), []api.When{on(4, 1), on(5, 1)}, []api.When{on(9, 1), on(7, 1)}, bounded{4, 7, true, api.OK}},
		{greatest(event(0), event(1)), []api.When{on(4, 1), on(5, 1)}, []api.When{on(9, 1), on(7, 1)}, bounded{5, 9, true, api.OK}},
		{day(3), nil, nil, bounded{3, 3, true, api.OK}}, {day(3), nil, []api.When{}, bounded{3, 3, true, api.OK}},
		{day(3), []api.When{{}}, []api.When{hidden}, bounded{3, 3, true, api.OK}},
		{event(0), []api.When{on(4, 5), hidden}, []api.When{on(5, 0), {}}, bounded{4, 5, true, api.OK}},
		{event(1), []api.When{on(4, 5), hidden}, []api.When{on(5, 0), {}}, bounded{}},
		{event(0), []api.When{{}}, []api.When{{}}, bounded{}}, {least(event(0), day(1)), []api.When{{}}, []api.When{hidden}, bounded{}},
		{event(0), []api.When{on(4, 5)}, []api.When{on(4, 4)}, refused}, {event(0), []api.When{on(5, 0)}, []api.When{on(4, 9)}, refused}, {event(0), []api.When{on(4, 9)}, []api.When{on(5, 0)}, bounded{4, 5, true, api.OK}},
		{day(3), []api.When{on(4, 5)}, []api.When{on(4, 4)}, refused}, {day(3), []api.When{on(5, 0)}, []api.When{on(4, 9)}, refused},
		{event(0), []api.When{on(4, 5), on(4, 5)}, []api.When{on(4, 5), on(3, 9)}, refused},
		{event(0), []api.When{{}, on(4, 5)}, []api.When{{}, on(3, 9)}, refused},
		{event(0), []api.When{{}}, []api.When{on(1, 1)}, refused}, {event(0), []api.When{on(1, 1)}, []api.When{{}}, refused},
		{event(0), []api.When{{Day: 1, Minute: 1}}, []api.When{on(1, 1)}, refused}, {event(0), []api.When{on(1, 1)}, []api.When{{Day: 1, Minute: 1}}, refused},
		{event(0), []api.When{on(1, 1), {}}, []api.When{on(1, 1), on(1, 1)}, refused}, {event(0), []api.When{on(1, 1), on(1, 1)}, []api.When{on(1, 1), {}}, refused},
		{day(3), []api.When{{}}, []api.When{on(1, 1)}, refused}, {day(3), nil, []api.When{{}}, refused}, {day(3), []api.When{{}}, nil, refused},
		{event(0), []api.When{on(1, 1)}, []api.When{on(1, 1), on(1, 1)}, refused}, {event(0), []api.When{on(1, 1), on(1, 1)}, []api.When{on(1, 1)}, refused}, {event(0), []api.When{on(1, 1)}, nil, refused},
		{event(0), []api.When{on(-1, 1)}, []api.When{on(1, 1)}, refused}, {event(0), []api.When{on(1, 1)}, []api.When{on(lastDay+1, 1)}, refused}, {event(0), []api.When{on(1, 1)}, []api.When{on(2, 1440)}, refused}, {event(0), []api.When{on(1, -1)}, []api.When{on(2, 1)}, refused},
		{plus(5, event(0)), []api.When{on(1, 0)}, []api.When{on(lastDay, 0)}, late}, {plus(5, event(0)), []api.When{on(lastDay, 0)}, []api.When{on(lastDay, 0)}, late}, {plus(5, event(0)), []api.When{on(1, 0)}, []api.When{on(lastDay-5, 0)}, bounded{6, lastDay, true, api.OK}},
		{cut(0, 600), []api.When{on(lastDay, 599)}, []api.When{on(lastDay, 600)}, late}, {plus(5, day(lastDay)), nil, nil, late},
		// What is not valid comes before what is out of range, and before what is not known.
		{plus(5, event(0)), []api.When{on(lastDay, 0)}, []api.When{on(lastDay+1, 0)}, refused}, {plus(5, event(0)), []api.When{on(lastDay, 5)}, []api.When{on(lastDay, 4)}, refused}, {plus(5, day(lastDay)), nil, []api.When{{}}, refused}, {plus(5, day(lastDay)), []api.When{{}}, []api.When{on(1, 1)}, refused}, {plus(5, day(lastDay)), []api.When{on(1, 1)}, []api.When{on(1, 1440)}, refused},
		{plus(5, day(lastDay)), []api.When{on(-1, 1)}, []api.When{on(1, 1)}, refused}, {event(0), []api.When{{}, on(1, 1)}, []api.When{{}, on(1, 1440)}, refused}, {event(0), []api.When{{}, on(1, 1440)}, []api.When{{}, on(2, 1)}, refused}, {event(1), []api.When{{}}, []api.When{{}}, refused},
		{least(event(0), plus(5, event(1))), []api.When{{}, on(lastDay, 1)}, []api.When{{}, on(lastDay, 1)}, bounded{}},
		{api.Term{}, nil, nil, refused}, {day(-1), nil, nil, refused}, {cut(0, 1441), []api.When{on(1, 1)}, []api.When{on(1, 1)}, refused},
	} {
		if got := bounds(test.t, week(), test.low, test.high); got != test.want {
			t.Error(i, test, got)
		}
	}
	for i, c := range noCalendars() {
		for _, term := range []api.Term{day(1), event(0), plus(1, day(lastDay))} {
			if got := bounds(term, c, []api.When{{}}, []api.When{{}}); got != refused {
				t.Error(i, term, got)
			}
		}
	}
}

// atMost reports whether an event is not later than another one.
func atMost(first, second api.When) bool {
	return 1440*first.Day+first.Minute <= 1440*second.Day+second.Minute
}

// P5.1, E3: one event in each list, at all pairs of few times.
func TestPairsOfTimes(t *testing.T) {
	times := []api.When{{}, {Day: 7, Minute: 7}}
	for _, day := range []int{-1, 0, 1, 2, lastDay - 1, lastDay, lastDay + 1} {
		for _, minute := range []int{-1, 0, 1, 700, 1438, 1439, 1440} {
			times = append(times, on(day, minute))
		}
	}
	for _, low := range times {
		for _, high := range times {
			for _, term := range []api.Term{event(0), cut(0, 700), plus(1, event(0)), event(1), cut(2, 5)} {
				lows, highs := []api.When{low, on(3, 3), {}}, []api.When{high, on(4, 4), {}}
				first, last := eval(term, week(), lows), eval(term, week(), highs)
				want := bounded{first.day, last.day, first.known, api.OK}
				switch {
				case first.err == api.ErrArg || last.err == api.ErrArg || low.Known != high.Known || low.Known && !atMost(low, high):
					want = bounded{0, 0, false, api.ErrArg}
				case first.err != api.OK || last.err != api.OK:
					want = bounded{0, 0, false, api.ErrRange}
				}
				if got := bounds(term, week(), lows, highs); got != want {
					t.Error(term, low, high, got, want)
				}
			}
		}
	}
}

// copied returns a term that shares no memory with another one.
func copied(t api.Term) api.Term {
	t.Kids = slices.Clone(t.Kids)
	for i, kid := range t.Kids {
		t.Kids[i] = copied(kid)
	}
	return t
}

// equal reports whether two terms are equal.
func equal(a, b api.Term) bool {
	return a.Kind == b.Kind && a.N == b.N && a.Event == b.Event && a.Business == b.Business && slices.EqualFunc(a.Kids, b.Kids, equal)
}

// P3: the same call once more, and with equal arguments elsewhere in memory; and arguments stay as they were.
func TestIndependence(t *testing.T) {
	random := rand.New(rand.NewSource(13))
	c := calendars()["holidays"]
	for range 3000 {
		low := someEvents(random, random.Intn(5), 9)
		high := later(random, low)
		term := someTerm(random, len(low))
		oldTerm, oldLow, oldHigh := copied(term), slices.Clone(low), slices.Clone(high)
		valid, events, day, both := deadline.Valid(term, len(low)), deadline.Events(term), eval(term, c, low), bounds(term, c, low, high)
		if !equal(term, oldTerm) || !slices.Equal(low, oldLow) || !slices.Equal(high, oldHigh) || !slices.Equal(c.Holidays, calendars()["holidays"].Holidays) {
			t.Error("arguments were changed", oldTerm, oldLow, oldHigh)
		}
		eval(someTerm(random, 0), week(), nil)
		for _, same := range []api.Term{term, oldTerm} {
			if deadline.Valid(same, len(low)) != valid || !slices.Equal(deadline.Events(same), events) || eval(same, c, oldLow) != day || bounds(same, c, oldLow, oldHigh) != both {
				t.Error("other results", term, low, high)
			}
		}
	}
}
