package deadline_test

import (
	"math"
	"math/rand"
	"slices"
	"testing"

	"estoppel/api"
	"estoppel/deadline"
)

// on returns an event that is known.
func on(day, minute int) api.When { return api.When{Known: true, Day: day, Minute: minute} }

// of returns a term of a kind with kids.
func of(kind, n int, kids ...api.Term) api.Term { return api.Term{Kind: kind, N: n, Kids: kids} }

// day returns the term of a day.
func day(n int) api.Term { return of(api.TermDay, n) }

// event returns the term of an event.
func event(i int) api.Term { return api.Term{Kind: api.TermEvent, Event: i} }

// cut returns the term of an event with a cut.
func cut(i, n int) api.Term { return api.Term{Kind: api.TermCut, Event: i, N: n} }

// plus returns the term of a number of days after another one.
func plus(n int, kid api.Term) api.Term { return of(api.TermPlus, n, kid) }

// business returns the term of a number of business days after another one.
func business(n int, kid api.Term) api.Term {
	return api.Term{Kind: api.TermPlus, N: n, Business: true, Kids: []api.Term{kid}}
}

// months returns the term of a number of months after another one.
func months(n int, kid api.Term) api.Term { return of(api.TermMonths, n, kid) }

// next returns the term of the first business day from another one on.
func next(kid api.Term) api.Term { return of(api.TermNext, 0, kid) }

// least returns the term of the earliest one of kids.
func least(kids ...api.Term) api.Term { return of(api.TermMin, 0, kids...) }

// greatest returns the term of the latest one of kids.
func greatest(kids ...api.Term) api.Term { return of(api.TermMax, 0, kids...) }

// leaves returns terms without kids.
func leaves(number int) []api.Term {
	var all []api.Term
	for i := range number {
		all = append(all, day(i))
	}
	return all
}

// chain returns a term, as the only kid of the only kid and so on of a number of terms.
func chain(above int, t api.Term) api.Term {
	for i := range above {
		switch i % 4 {
		case 0:
			t = next(t)
		case 1:
			t = plus(i, t)
		case 2:
			t = months(i, t)
		case 3:
			t = greatest(t)
		}
	}
	return t
}

// between reports whether a number is from one to another one.
func between(number, from, to int) bool { return from <= number && number <= to }

// isNode reports whether a node with valid kids, at most 3, is as in the chapter's table.
func isNode(n api.Term, events int) bool {
	kids := len(n.Kids)
	switch n.Kind {
	case api.TermDay:
		return between(n.N, 0, 73048) && n.Event == 0 && !n.Business && kids == 0
	case api.TermEvent:
		return n.N == 0 && between(n.Event, 0, events-1) && !n.Business && kids == 0
	case api.TermCut:
		return between(n.N, 0, 1440) && between(n.Event, 0, events-1) && !n.Business && kids == 0
	case api.TermPlus:
		return between(n.N, 0, 1000) && n.Event == 0 && kids == 1
	case api.TermMonths:
		return between(n.N, 0, 120) && n.Event == 0 && !n.Business && kids == 1
	case api.TermNext:
		return n.N == 0 && n.Event == 0 && !n.Business && kids == 1
	case api.TermMin, api.TermMax:
		return n.N == 0 && n.Event == 0 && !n.Business && kids >= 1
	}
	return false
}

// someNodes returns nodes of all kinds and of none, with fields at and beyond all limits, and few kids.
func someNodes() []api.Term {
	var all []api.Term
	for _, kind := range []int{math.MinInt, -1, 0, 1, 2, 3, 4, 5, 6, 7, 8, 9, 1<<32 + 1, math.MaxInt} {
		for _, n := range []int{math.MinInt, -1, 0, 1, 120, 121, 1000, 1001, 1440, 1441, 73048, 73049, 1 << 32, math.MaxInt} {
			for _, event := range []int{math.MinInt, -1, 0, 1, 4, 5, 999, 1000, 1001, 1 << 32, math.MaxInt} {
				for kids := range 4 {
					all = append(all, api.Term{Kind: kind, N: n, Event: event, Kids: leaves(kids)}, api.Term{Kind: kind, N: n, Event: event, Business: true, Kids: leaves(kids)})
				}
			}
		}
	}
	return all
}

// P5.1, E1: the table of the kinds of terms, for a node at each of several places.
func TestFields(t *testing.T) {
	valid := map[int]int{}
	for _, n := range someNodes() {
		for _, events := range []int{math.MinInt, -1, 0, 1, 2, 5, 999, 1000, 1001, 1 << 32, math.MaxInt} {
			want := between(events, 0, 1000) && isNode(n, events)
			for place, term := range []api.Term{n, least(n), greatest(day(1), n, day(2)), chain(8, n)} {
				if deadline.Valid(term, events) != want {
					t.Error(n, events, place, !want)
				}
			}
			if want {
				valid[n.Kind]++
			}
		}
	}
	for kind := api.TermDay; kind <= api.TermMax; kind++ {
		if valid[kind] == 0 {
			t.Error("no valid nodes of kind", kind)
		}
	}
}

// P5.1, E1: every number that N may be, and every event.
func TestAllNumbers(t *testing.T) {
	for n := -10; n < 73100; n++ {
		if deadline.Valid(day(n), 0) != between(n, 0, 73048) || deadline.Valid(cut(0, n), 1) != between(n, 0, 1440) {
			t.Error(n)
		}
		if deadline.Valid(plus(n, day(1)), 0) != between(n, 0, 1000) || deadline.Valid(business(n, day(1)), 0) != between(n, 0, 1000) {
			t.Error(n)
		}
		if deadline.Valid(months(n, day(1)), 0) != between(n, 0, 120) {
			t.Error(n)
		}
	}
	for events := -3; events < 1010; events++ {
		if deadline.Valid(day(1), events) != between(events, 0, 1000) {
			t.Error(events)
		}
		for _, i := range []int{-1, 0, 1, events - 2, events - 1, events, events + 1, 1000} {
			want := between(events, 0, 1000) && between(i, 0, events-1)
			if deadline.Valid(event(i), events) != want || deadline.Valid(cut(i, 5), events) != want {
				t.Error(i, events)
			}
		}
	}
}

// P5.1, E1: a term is not valid if any of its nodes is not, wherever it lies.
func TestOneFault(t *testing.T) {
	faults := []api.Term{{}, day(-1), event(5), cut(0, 1441), plus(1001, day(1)), business(-1, day(1)), months(121, day(1)), next(event(-1)), least(), greatest()}
	for _, fault := range faults {
		for number := 1; number < 30; number++ {
			for at := range number {
				kids := leaves(number)
				kids[at] = fault
				for _, term := range []api.Term{least(kids...), greatest(kids...), greatest(day(1), chain(5, least(kids...)), day(1))} {
					if deadline.Valid(term, 5) {
						t.Error(fault, number, at)
					}
				}
			}
		}
	}
}

// sized returns terms that have a number of nodes and longest paths of another number of nodes, at least 2 and at most one per node.
func sized(nodes, path int) []api.Term {
	more := leaves(nodes - path)
	down := chain(path-2, day(1))
	spread := day(1)
	for i := range path - 1 {
		share := len(more)
		if i < path-2 {
			share = (nodes - path) / (path - 1)
		}
		spread = greatest(append([]api.Term{spread}, more[:share]...)...)
		more = more[share:]
	}
	return []api.Term{
		greatest(append([]api.Term{down}, leaves(nodes-path)...)...),
		least(append(leaves(nodes-path), down)...),
		chain(path-2, least(leaves(nodes-path+1)...)),
		spread,
	}
}

// P5.1, E1: terms with up to 40 nodes and with more, and paths of up to 10 nodes and of more.
func TestSizes(t *testing.T) {
	for nodes := 2; nodes <= 60; nodes++ {
		for path := 2; path <= min(nodes, 20); path++ {
			for i, term := range sized(nodes, path) {
				if want := nodes <= 40 && path <= 10; deadline.Valid(term, 0) != want {
					t.Error(nodes, path, i, !want)
				}
			}
		}
	}
}

// grown returns a term in which each of a number of nodes is a kid of some node before it, and the number of nodes on its longest paths.
func grown(random *rand.Rand, nodes int) (api.Term, int) {
	below := make([][]int, nodes)
	for i := 1; i < nodes; i++ {
		parent := random.Intn(i)
		if random.Intn(4) == 0 {
			parent = i - 1
		}
		below[parent] = append(below[parent], i)
	}
	longest := 0
	var build func(i, path int) api.Term
	build = func(i, path int) api.Term {
		longest = max(longest, path)
		var kids []api.Term
		for _, kid := range below[i] {
			kids = append(kids, build(kid, path+1))
		}
		switch {
		case len(kids) == 0:
			return event(i)
		case len(kids) == 1:
			return business(i, kids[0])
		}
		return least(kids...)
	}
	return build(0, 1), longest
}

// P5.1, E1: terms of all shapes.
func TestShapes(t *testing.T) {
	random := rand.New(rand.NewSource(5))
	count := map[bool]int{}
	for range 20000 {
		nodes := 30 + random.Intn(15)
		term, path := grown(random, nodes)
		want := nodes <= 40 && path <= 10
		if deadline.Valid(term, nodes) != want {
			t.Error(nodes, path, !want)
		}
		count[want]++
	}
	if count[true] < 1000 || count[false] < 1000 {
		t.Error("too few of", count)
	}
}

// endless returns terms that are their own kids, or have more nodes than could be visited.
func endless() map[string]api.Term {
	all := map[string]api.Term{}
	own := func(name string, t api.Term, at ...int) {
		for _, i := range at {
			t.Kids[i] = t
		}
		all[name] = t
	}
	own("its own kid", next(day(1)), 0)
	own("its own kid, business days", business(0, day(1)), 0)
	own("its own first kid", least(day(1), day(2)), 0)
	own("its own last kid", greatest(day(1), day(2)), 1)
	own("all its own kids", least(day(1), day(2), day(3)), 0, 1, 2)
	own("its own kid, of no kind", of(0, 0, day(1)), 0)
	own("its own kid, of a kind without kids", of(api.TermEvent, 0, day(1)), 0)
	all["below another one"] = greatest(day(1), all["its own kid"], day(2))
	all["below a chain"] = chain(9, all["all its own kids"])
	doubled := event(0)
	for range 60 {
		doubled = least(doubled, doubled)
	}
	all["two kids on 60 levels"] = doubled
	all["200000 levels"] = chain(200000, event(0))
	all["200000 kids"] = least(slices.Repeat(leaves(10), 20000)...)
	all["40 kids with 40 kids"] = least(slices.Repeat([]api.Term{greatest(slices.Repeat(leaves(40), 40)...)}, 40)...)
	return all
}

// P1, P5.1: terms without an end are not valid, and every function returns.
func TestEndless(t *testing.T) {
	events := []api.When{on(1, 1), on(2, 2)}
	for name, term := range endless() {
		if deadline.Valid(term, 2) || deadline.Valid(term, 1000) || len(deadline.Events(term)) != 0 {
			t.Error(name, "is valid")
		}
		if got, known, err := deadline.Eval(term, week(), events); got != 0 || known || err != api.ErrArg {
			t.Error(name, got, known, err)
		}
		if first, last, known, err := deadline.Bounds(term, week(), events, events); first != 0 || last != 0 || known || err != api.ErrArg {
			t.Error(name, first, last, known, err)
		}
	}
}

// P5.1, E1: kids that are nil or empty are no kids.
func TestNoKids(t *testing.T) {
	for _, term := range []api.Term{day(7), event(0), cut(0, 9)} {
		for _, kids := range [][]api.Term{nil, {}, leaves(3)[:0]} {
			term.Kids = kids
			if !deadline.Valid(term, 1) {
				t.Error(term)
			}
		}
	}
	for _, kind := range []int{api.TermPlus, api.TermMonths, api.TermNext, api.TermMin, api.TermMax} {
		for _, kids := range [][]api.Term{nil, {}, leaves(3)[:0]} {
			if deadline.Valid(of(kind, 0, kids...), 1) {
				t.Error(kind)
			}
		}
	}
}

// P5.1, E1: the events of terms that are valid, and of others.
func TestEvents(t *testing.T) {
	all := greatest()
	for i := range 39 {
		all.Kids = append(all.Kids, event(999-25*i))
	}
	var tens []int
	for i := 999 - 25*38; i < 1000; i += 25 {
		tens = append(tens, i)
	}
	for i, test := range []struct {
		t    api.Term
		want []int
	}{
		{day(5), nil}, {event(0), []int{0}}, {event(999), []int{999}}, {cut(0, 0), []int{0}}, {cut(999, 1440), []int{999}}, {cut(7, 600), []int{7}},
		{next(months(3, plus(2, event(8)))), []int{8}}, {business(3, cut(4, 100)), []int{4}}, {next(day(5)), nil},
		{least(event(7), cut(2, 5), event(7)), []int{2, 7}}, {greatest(cut(3, 5), event(3), cut(3, 6)), []int{3}},
		{least(event(0), day(0), event(999), plus(0, day(1))), []int{0, 999}}, {least(day(1), greatest(event(30), event(4)), event(100), next(event(4))), []int{4, 30, 100}},
		{least(event(1), event(2), event(1), event(3), event(2)), []int{1, 2, 3}}, {chain(9, event(5)), []int{5}}, {all, tens},
		{api.Term{}, nil}, {event(1000), nil}, {event(-1), nil}, {cut(1000, 5), nil}, {cut(5, 1441), nil}, {cut(5, -1), nil}, {chain(10, event(5)), nil},
		{least(event(1), event(1000)), nil}, {least(event(1), day(-1)), nil}, {greatest(event(1), least()), nil}, {plus(1001, event(1)), nil}, {of(0, 0, event(1)), nil},
		{of(api.TermNext, 0, event(1), event(2)), nil}, {of(api.TermDay, 0, event(1)), nil}, {of(api.TermEvent, 0, event(1)), nil}, {greatest(append(leaves(1), all.Kids...)...), nil},
		{api.Term{Kind: api.TermNext, Event: 3, Kids: []api.Term{event(1)}}, nil}, {api.Term{Kind: api.TermDay, Event: 3}, nil},
	} {
		if got := deadline.Events(test.t); !slices.Equal(got, test.want) {
			t.Error(i, got, "instead of", test.want)
		}
	}
}

// P5.1, E1: the events of many terms, and P3: the same once more, although the first result was changed.
func TestEventsOfMany(t *testing.T) {
	random := rand.New(rand.NewSource(7))
	for range 20000 {
		term := someTerm(random, 1+random.Intn(1000))
		seen := map[int]bool{}
		var collect func(t api.Term)
		collect = func(t api.Term) {
			if t.Kind == api.TermEvent || t.Kind == api.TermCut {
				seen[t.Event] = true
			}
			for _, kid := range t.Kids {
				collect(kid)
			}
		}
		collect(term)
		var want []int
		for i := range 1000 {
			if seen[i] {
				want = append(want, i)
			}
		}
		got := deadline.Events(term)
		if !slices.Equal(got, want) {
			t.Error(term, got, want)
		}
		for i := range got {
			got[i] = -1
		}
		if again := deadline.Events(term); !slices.Equal(again, want) {
			t.Error(term, again, want)
		}
	}
}
