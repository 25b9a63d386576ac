package deadline_test

import (
	"math/rand"
	"slices"
	"testing"

	"estoppel/api"
	"estoppel/deadline"
)

// later returns events of which none is earlier than that of a list.
func later(random *rand.Rand, events []api.When) []api.When {
	all := slices.Clone(events)
	for i, w := range all {
		if !w.Known {
			continue
		}
		at, end := 1440*w.Day+w.Minute, 1440*lastDay+1439
		switch random.Intn(6) {
		case 0:
			at++
		case 1:
			at += random.Intn(1440)
		case 2:
			at += 1440 * random.Intn(10)
		case 3:
			at += random.Intn(1440 * 1000)
		case 4:
			at = max(at, end-random.Intn(1440*40))
		}
		at = min(at, end)
		all[i] = on(at/1440, at%1440)
	}
	return all
}

// P5.2.
func TestMonotony(t *testing.T) {
	for name, c := range calendars() {
		random := rand.New(rand.NewSource(17))
		compared, late := 0, 0
		for range 4000 {
			early := someEvents(random, 1+random.Intn(3), 50)
			term := someTerm(random, len(early))
			first, second := eval(term, c, early), eval(term, c, later(random, early))
			if first.err == api.ErrRange && second.err != api.ErrRange || first.err == api.ErrArg || second.err == api.ErrArg {
				t.Error(name, term, early, first, second)
			}
			if first.known && second.known {
				compared++
				if first.day > second.day {
					t.Error(name, term, early, first, second)
				}
			}
			if first.known && second.err == api.ErrRange {
				late++
			}
		}
		if compared < 1000 || late < 50 {
			t.Error(name, "was compared only", compared, late)
		}
	}
}

// P5.2: terms of each kind, minute by minute.
func TestMinuteByMinute(t *testing.T) {
	c := calendars()["holiday"]
	for _, term := range []api.Term{
		event(0), cut(0, 0), cut(0, 1), cut(0, 700), cut(0, 1439), cut(0, 1440), plus(3, cut(0, 700)), business(0, event(0)), business(4, cut(0, 5)), months(1, event(0)), months(13, cut(0, 9)), next(cut(0, 1020)),
		least(event(0), day(20)), greatest(cut(0, 60), day(20)), least(cut(0, 600), cut(0, 900), plus(2, event(0))), greatest(months(1, event(0)), business(22, event(0))),
	} {
		before := 0
		for at := range 70 * 1440 {
			got := eval(term, c, []api.When{on(at/1440, at%1440)})
			if !got.known || got.day < before {
				t.Error(term, at, got, before)
			}
			before = got.day
		}
	}
}

// P5.3.
func TestBetweenBounds(t *testing.T) {
	for name, c := range calendars() {
		random := rand.New(rand.NewSource(19))
		compared := 0
		for range 3000 {
			low := someEvents(random, random.Intn(4), 40)
			middle := later(random, low)
			high := later(random, middle)
			term := someTerm(random, len(low))
			got := bounds(term, c, low, high)
			inner := eval(term, c, middle)
			if first, last := eval(term, c, low), eval(term, c, high); got.err == api.OK && (got.first != first.day || got.last != last.day || got.known != first.known) {
				t.Error(name, term, low, high, got, first, last)
			}
			switch {
			case got.err == api.ErrArg || got.err == api.OK && (inner.err != api.OK || inner.known != got.known):
				t.Error(name, term, low, middle, high, got, inner)
			case got.known:
				compared++
				if !between(inner.day, got.first, got.last) {
					t.Error(name, term, low, middle, high, got, inner)
				}
			}
		}
		if compared < 1000 {
			t.Error(name, "was compared only", compared)
		}
	}
}

// P5.3: all times between two pairs of times.
func TestAllBetween(t *testing.T) {
	c := calendars()["holiday"]
	term := greatest(next(cut(0, 700)), business(2, least(event(1), cut(1, 1439))))
	for _, low := range []int{10, 11, 12} {
		got := bounds(term, c, []api.When{on(low, 690), on(low, 1430)}, []api.When{on(low, 710), on(low+1, 2)})
		reached := map[int]bool{}
		for first := 690; first <= 710; first++ {
			for second := 1430; second <= 1442; second++ {
				inner := eval(term, c, []api.When{on(low, first), on(low+second/1440, second%1440)})
				if !inner.known || !between(inner.day, got.first, got.last) {
					t.Error(low, first, second, inner, got)
				}
				reached[inner.day] = true
			}
		}
		if !reached[got.first] || !reached[got.last] {
			t.Error(low, got, reached)
		}
	}
}

// P5.4.
func TestNeeds(t *testing.T) {
	count := map[bool]int{}
	for name, c := range calendars() {
		random := rand.New(rand.NewSource(23))
		for range 2000 {
			events := someEvents(random, 1+random.Intn(6), 5)
			term := someTerm(random, len(events))
			needed := deadline.Events(term)
			got := eval(term, c, events)
			all := !slices.ContainsFunc(needed, func(i int) bool { return !events[i].Known })
			if got.err == api.ErrArg || got.err == api.OK && got.known != all || got.err == api.ErrRange && !all {
				t.Error(name, term, events, got)
			}
			count[all]++
			changed := slices.Clone(events)
			for i := range changed {
				if !slices.Contains(needed, i) {
					changed[i] = someEvents(random, 1, 3)[0]
				}
			}
			if again := eval(term, c, changed); again != got {
				t.Error(name, term, events, changed, got, again)
			}
			if longer := eval(term, c, append(changed, on(1, 1), api.When{})); longer != got {
				t.Error(name, term, events, got, longer)
			}
		}
	}
	if count[true] < 1000 || count[false] < 1000 {
		t.Error("too few of", count)
	}
}

// P5.4: every event that a term needs.
func TestEachNeeded(t *testing.T) {
	var kids []api.Term
	for i := range 39 {
		kids = append(kids, []api.Term{event(i), cut(i, 30*i)}[i%2])
	}
	for _, term := range []api.Term{least(kids...), greatest(kids...)} {
		events := slices.Repeat([]api.When{on(9, 9)}, 45)
		for i := range events {
			events[i] = api.When{}
			if got := eval(term, week(), events); got.known != (i >= 39) || got.err != api.OK {
				t.Error(i, got)
			}
			if got := bounds(term, week(), events, events); got.known != (i >= 39) || got.err != api.OK {
				t.Error(i, got)
			}
			events[i] = on(9, 9)
		}
	}
}

// P5.5.
func TestExtremes(t *testing.T) {
	compared := 0
	for name, c := range calendars() {
		random := rand.New(rand.NewSource(29))
		for range 2000 {
			events := someEvents(random, 3, 1000)
			var kids []api.Term
			for range 1 + random.Intn(5) {
				g := &grower{random, len(events), 4}
				kids = append(kids, g.term(6))
			}
			var days []int
			for _, kid := range kids {
				if got := eval(kid, c, events); got.known {
					days = append(days, got.day)
				}
			}
			// Other orders of the kids, and some of them repeated.
			other := append(slices.Clone(kids), kids[:random.Intn(min(len(kids), 3))]...)
			random.Shuffle(len(other), func(i, j int) { other[i], other[j] = other[j], other[i] })
			for kind, extreme := range map[int]func(days []int) int{api.TermMin: slices.Min[[]int], api.TermMax: slices.Max[[]int]} {
				got := eval(of(kind, 0, kids...), c, events)
				if got.known != (len(days) == len(kids)) || got.known && got.day != extreme(days) {
					t.Error(name, kind, kids, events, got, days)
				}
				if again := eval(of(kind, 0, other...), c, events); again != got {
					t.Error(name, kind, kids, other, events, got, again)
				}
				if got.known {
					compared++
				}
			}
		}
	}
	if compared < 10000 {
		t.Error("only", compared)
	}
}

// P5.6: calendar days.
func TestSums(t *testing.T) {
	for name, c := range calendars() {
		for _, from := range []int{0, 1, 5, 399, 36500, lastDay - 1000, lastDay - 500, lastDay - 2, lastDay} {
			for _, m := range []int{0, 1, 2, 250, 499, 500} {
				for _, n := range []int{0, 1, 3, 250, 499, 500} {
					got, want := eval(plus(n, plus(m, day(from))), c, nil), eval(plus(m+n, day(from)), c, nil)
					if got != want || got.known != (from+m+n <= lastDay) || got.known && got.day != from+m+n {
						t.Error(name, from, m, n, got, want)
					}
				}
			}
		}
	}
}

// P5.6: business days.
func TestBusinessSums(t *testing.T) {
	compared := 0
	for name, c := range calendars() {
		p := planned(c)
		for _, from := range append(numbers(0, 30), 398, 399, 400, 401, 34998, 35001, 36499, 36500, 36503, 37802, 65000, 72640, 72646, 72647, 72648, 72649, 73030, 73040, 73041, 73044, 73045, lastDay-1, lastDay) {
			if got, want := eval(business(0, day(from)), c, nil), eval(next(day(from)), c, nil); got != want {
				t.Error(name, from, got, want)
			}
			for _, m := range []int{0, 1, 2, 5, 250, 500} {
				first := eval(business(m, day(from)), c, nil)
				if first.known && (first.err != api.OK || !p.business[first.day]) {
					t.Error(name, from, m, first)
				}
				if !p.business[from] {
					continue
				}
				for _, n := range []int{1, 2, 3, 10, 499, 500} {
					got, want := eval(business(n, business(m, day(from))), c, nil), eval(business(m+n, day(from)), c, nil)
					if got != want || got.known != (want.err == api.OK) {
						t.Error(name, from, m, n, got, want)
					}
					compared++
				}
			}
		}
	}
	if compared < 5000 {
		t.Error("only", compared)
	}
}

// P5.7.
func TestCuts(t *testing.T) {
	for _, from := range []int{0, 4, 14, 36500, lastDay - 1} {
		for _, minute := range []int{0, 1, 2, 59, 60, 719, 720, 1000, 1020, 1437, 1438, 1439} {
			events := []api.When{on(1, 1), on(from, minute), on(2, 2)}
			if got := eval(cut(1, 1440), week(), events); got != (evaluated{from, true, api.OK}) || got != eval(event(1), week(), events) {
				t.Error(from, minute, got)
			}
			before := evaluated{from + 1, true, api.OK}
			for n := 0; n <= 1440; n++ {
				got := eval(cut(1, n), week(), events)
				if n == 0 && got != before || got.day > before.day || !got.known {
					t.Error(from, minute, n, got, before)
				}
				if got.day != from && minute < n || got.day != from+1 && minute >= n {
					t.Error(from, minute, n, got)
				}
				before = got
			}
		}
	}
	for _, minute := range []int{0, 720, 1439} {
		for n := 0; n <= 1440; n++ {
			want := evaluated{lastDay, true, api.OK}
			if minute >= n {
				want = evaluated{0, false, api.ErrRange}
			}
			if got := eval(cut(0, n), week(), []api.When{on(lastDay, minute)}); got != want {
				t.Error(minute, n, got)
			}
		}
	}
}
