package date_test

import (
	"math"
	"math/rand"
	"slices"
	"testing"

	"estoppel/api"
	"estoppel/date"
)

// daysOff returns a weekend of some weekdays.
func daysOff(weekdays ...int) [7]bool {
	var weekend [7]bool
	for _, weekday := range weekdays {
		weekend[weekday] = true
	}
	return weekend
}

// holidays returns some holidays, each some days after the one before it.
func holidays(from, apart, number int) []int {
	var days []int
	for i := range number {
		days = append(days, from+i*apart)
	}
	return days
}

// scattered returns 400 holidays, the same in each run.
func scattered(seed int64) []int {
	days := rand.New(rand.NewSource(seed)).Perm(api.MaxDate + 1)[:400]
	slices.Sort(days)
	return days
}

// calendars returns valid calendars: without and with holidays, at weekends and at both ends, and with as many as there can be.
func calendars() map[string]api.Calendar {
	return map[string]api.Calendar{
		"all days":              {},
		"empty holidays":        {Holidays: []int{}},
		"Saturday and Sunday":   {Weekend: daysOff(5, 6)},
		"one holiday":           {Weekend: daysOff(5, 6), Holidays: []int{4}},
		"first and last day":    {Weekend: daysOff(5, 6), Holidays: []int{0, api.MaxDate}},
		"holidays at weekends":  {Weekend: daysOff(5, 6), Holidays: []int{4, 5, 6, 12, 13, 14, 73044}},
		"only Wednesdays":       {Weekend: daysOff(0, 1, 3, 4, 5, 6), Holidays: []int{2, 9, 30}},
		"only Sundays":          {Weekend: daysOff(0, 1, 2, 3, 4, 5)},
		"Monday off":            {Weekend: daysOff(0), Holidays: []int{7, 8, 700, 701}},
		"400 days from day 0":   {Weekend: daysOff(4), Holidays: holidays(0, 1, 400)},
		"400 last days":         {Holidays: holidays(api.MaxDate-399, 1, 400)},
		"400 Saturdays":         {Weekend: daysOff(5, 6), Holidays: holidays(5, 7, 400)},
		"400 Mondays, only":     {Weekend: daysOff(1, 2, 3, 4, 5, 6), Holidays: holidays(0, 7, 400)},
		"400 days, every other": {Weekend: daysOff(2, 6), Holidays: holidays(36000, 2, 400)},
		"400 days, scattered":   {Weekend: daysOff(5, 6), Holidays: scattered(1)},
		"400 days, all week":    {Holidays: scattered(2)},
	}
}

// invalidCalendars returns calendars that are not valid, each for another reason.
func invalidCalendars() map[string]api.Calendar {
	late := holidays(api.MaxDate-399, 1, 400)
	late[399]++
	return map[string]api.Calendar{
		"no weekday":          {Weekend: daysOff(0, 1, 2, 3, 4, 5, 6)},
		"no weekday, holiday": {Weekend: daysOff(0, 1, 2, 3, 4, 5, 6), Holidays: []int{3}},
		"401 holidays":        {Holidays: holidays(0, 1, 401)},
		"twice":               {Holidays: []int{3, 3}},
		"twice at the end":    {Holidays: []int{0, 3, 9, 9}},
		"decreasing":          {Holidays: []int{3, 2}},
		"decreasing later":    {Weekend: daysOff(5, 6), Holidays: []int{1, 2, 7, 5, 8}},
		"before day 0":        {Holidays: []int{-1, 4}},
		"long before day 0":   {Holidays: []int{math.MinInt}},
		"after the last day":  {Holidays: []int{4, api.MaxDate + 1}},
		"after it, of 400":    {Holidays: late},
		"long after it":       {Holidays: []int{4, math.MaxInt}},
	}
}

// isBusiness reports whether a day is a business day of a valid calendar.
func isBusiness(c api.Calendar, day int) bool {
	return !c.Weekend[day%7] && !slices.Contains(c.Holidays, day)
}

// businessDays returns all business days of a valid calendar.
func businessDays(c api.Calendar) []int {
	var days []int
	for day := range api.MaxDate + 1 {
		if isBusiness(c, day) {
			days = append(days, day)
		}
	}
	return days
}

// someDays returns days at both ends, around the holidays and elsewhere.
func someDays(c api.Calendar) []int {
	days := append(holidays(0, 1, 20), holidays(api.MaxDate-19, 1, 20)...)
	for i := 0; i < len(c.Holidays); i += 1 + len(c.Holidays)/12 {
		for day := c.Holidays[i] - 1; day <= c.Holidays[i]+1; day++ {
			if day >= 0 && day <= api.MaxDate {
				days = append(days, day)
			}
		}
	}
	return append(days, holidays(500, 3001, 24)...)
}

// P2.1, B3.
func TestValidCalendars(t *testing.T) {
	for name, c := range calendars() {
		if !date.Valid(c) {
			t.Error(name, "is valid")
		}
	}
	for name, c := range invalidCalendars() {
		if date.Valid(c) {
			t.Error(name, "is not valid")
		}
	}
	for weekday := range 7 {
		if !date.Valid(api.Calendar{Weekend: daysOff(weekday)}) {
			t.Error(weekday)
		}
		only := daysOff(0, 1, 2, 3, 4, 5, 6)
		only[weekday] = false
		if !date.Valid(api.Calendar{Weekend: only}) {
			t.Error("only", weekday)
		}
	}
}

// P2.1, P2.5: the weekday and the holidays decide.
func TestBusiness(t *testing.T) {
	for name, c := range calendars() {
		for day := range api.MaxDate + 1 {
			if got := date.Business(c, day); got != isBusiness(c, day) {
				t.Fatal(name, day, got)
			}
		}
		for _, day := range noDays() {
			if date.Business(c, day) {
				t.Error(name, day)
			}
		}
	}
	for name, c := range invalidCalendars() {
		for _, day := range append(noDays(), 0, 1, 2, 3, 4, 8, api.MaxDate) {
			if date.Business(c, day) {
				t.Error(name, day)
			}
		}
	}
}

// P2.5: more holidays or weekdays off make no day a business day.
func TestMoreDaysOff(t *testing.T) {
	for name, c := range calendars() {
		var fewer api.Calendar
		for i, day := range c.Holidays {
			if i%3 != 1 {
				fewer.Holidays = append(fewer.Holidays, day)
			}
		}
		fewer.Weekend = c.Weekend
		fewer.Weekend[5] = false
		for day := 0; day <= api.MaxDate; day++ {
			if date.Business(c, day) && !date.Business(fewer, day) {
				t.Fatal(name, day)
			}
		}
	}
}

// P2.1, P2.6: the first business day from each day on, which does not decrease and is its own next.
func TestNext(t *testing.T) {
	for name, c := range calendars() {
		all := businessDays(c)
		before := 0
		for day := 0; day <= api.MaxDate; day += 1 + day%3 {
			at, _ := slices.BinarySearch(all, day)
			got, err := date.Next(c, day)
			if at == len(all) {
				if got != 0 || err != api.ErrRange {
					t.Fatal(name, day, got, err)
				}
				continue
			}
			if got != all[at] || err != api.OK || got < before || !date.Business(c, got) {
				t.Fatal(name, day, got, err)
			}
			before = got
			if again, err := date.Next(c, got); again != got || err != api.OK {
				t.Fatal(name, day, got, again, err)
			}
		}
	}
}

// P2.1, P2.7: the n-th business day after a day, also across the end of the calendar.
func TestAdd(t *testing.T) {
	for name, c := range calendars() {
		all := businessDays(c)
		for _, day := range someDays(c) {
			from, business := slices.BinarySearch(all, day)
			if business {
				from++
			}
			left := len(all) - from
			for _, n := range []int{1, 2, 3, 5, 6, 21, 400, 5000, left - 1, left, left + 1, api.MaxDate - day, api.MaxDate - day + 1, api.MaxDate, math.MaxInt - 1, math.MaxInt} {
				want, wantErr := 0, api.ErrRange
				if n < 1 {
					continue
				}
				if n <= left {
					want, wantErr = all[from+n-1], api.OK
				}
				if got, err := date.Add(c, day, n); got != want || err != wantErr {
					t.Fatal(name, day, n, got, err)
				}
			}
			next, nextErr := date.Next(c, day)
			if got, err := date.Add(c, day, 0); got != next || err != nextErr {
				t.Fatal(name, day, got, err)
			}
		}
	}
}

// P2.7: adding twice is adding the sum, and what lies between.
func TestAddTwice(t *testing.T) {
	for name, c := range calendars() {
		for _, day := range someDays(c) {
			for _, m := range []int{0, 1, 2, 7, 100} {
				middle, err := date.Add(c, day, m)
				if err != api.OK || m == 0 && !date.Business(c, day) {
					continue
				}
				for _, n := range []int{1, 2, 5, 60} {
					twice, twiceErr := date.Add(c, middle, n)
					if once, err := date.Add(c, day, m+n); once != twice || err != twiceErr {
						t.Fatal(name, day, m, n, once, err, twice, twiceErr)
					}
				}
			}
			for _, n := range []int{1, 2, 5, 60} {
				reached, err := date.Add(c, day, n)
				if err != api.OK {
					continue
				}
				if between, err := date.Count(c, day+1, reached); between != n-1 || err != api.OK || reached <= day {
					t.Fatal(name, day, n, reached, between, err)
				}
			}
		}
	}
}

// P2.1, P2.8: counts, which add up, are at most the number of days and 0 up to the next business day.
func TestCount(t *testing.T) {
	for name, c := range calendars() {
		all, days := businessDays(c), someDays(c)
		slices.Sort(days)
		for i, from := range days {
			for j := i; j < len(days); j += 1 + j%4 {
				to := days[j]
				first, _ := slices.BinarySearch(all, from)
				end, _ := slices.BinarySearch(all, to)
				got, err := date.Count(c, from, to)
				if got != end-first || err != api.OK || got > to-from {
					t.Fatal(name, from, to, got, err)
				}
				middle := (from + to) / 2
				left, _ := date.Count(c, from, middle)
				right, _ := date.Count(c, middle, to)
				if left+right != got {
					t.Fatal(name, from, middle, to, left, right, got)
				}
			}
			if next, err := date.Next(c, from); err == api.OK {
				if got, err := date.Count(c, from, next); got != 0 || err != api.OK {
					t.Fatal(name, from, next, got, err)
				}
			}
		}
	}
}

// P2.1: the examples of the chapter and of DOC.md.
func TestBusinessExamples(t *testing.T) {
	c := api.Calendar{Weekend: daysOff(5, 6), Holidays: []int{4}}
	plain := api.Calendar{Weekend: daysOff(5, 6)}
	for i, test := range []struct {
		call   func(c api.Calendar, day, n int) (int, api.Errno)
		c      api.Calendar
		day, n int
		want   int
		err    api.Errno
	}{
		{date.Add, c, 4, 0, 7, api.OK},
		{date.Add, c, 3, 1, 7, api.OK},
		{date.Add, c, 5, 0, 7, api.OK},
		{date.Add, c, 5, 1, 7, api.OK},
		{date.Add, c, 5, 2, 8, api.OK},
		{date.Count, c, 0, 8, 5, api.OK},
		{date.Count, c, 3, 3, 0, api.OK},
		{date.Count, c, 3, 4, 1, api.OK},
		{date.Count, c, 4, 5, 0, api.OK},
		{date.Add, plain, 3, 1, 4, api.OK},
		{date.Add, plain, 3, 2, 7, api.OK},
		{date.Add, api.Calendar{}, 0, api.MaxDate, api.MaxDate, api.OK},
		{date.Add, api.Calendar{}, 1, api.MaxDate, 0, api.ErrRange},
		{date.Add, api.Calendar{}, api.MaxDate, 0, api.MaxDate, api.OK},
		{date.Add, api.Calendar{}, api.MaxDate, 1, 0, api.ErrRange},
		{date.Count, api.Calendar{}, 0, api.MaxDate, api.MaxDate, api.OK},
		{date.Count, api.Calendar{}, api.MaxDate, api.MaxDate, 0, api.OK},
	} {
		if got, err := test.call(test.c, test.day, test.n); got != test.want || err != test.err {
			t.Error(i, got, err)
		}
	}
}

// P2.1, P1: calendars that are not valid, what is no day number, negative numbers and reversed ranges.
func TestBusinessErrors(t *testing.T) {
	check := func(call string, got int, err api.Errno) {
		t.Helper()
		if got != 0 || err != api.ErrArg {
			t.Error(call, got, err)
		}
	}
	days := append(noDays(), 0, 3, 700, api.MaxDate)
	invalid := invalidCalendars()
	for name, c := range invalid {
		for _, day := range days {
			next, nextErr := date.Next(c, day)
			check("Next "+name, next, nextErr)
			for _, n := range days {
				added, addErr := date.Add(c, day, n)
				check("Add "+name, added, addErr)
				counted, countErr := date.Count(c, day, n)
				check("Count "+name, counted, countErr)
			}
		}
	}
	for name, c := range calendars() {
		for _, wrong := range noDays() {
			next, nextErr := date.Next(c, wrong)
			check("Next "+name, next, nextErr)
			for _, n := range []int{-1, 0, 1, math.MaxInt, math.MinInt} {
				added, addErr := date.Add(c, wrong, n)
				check("Add "+name, added, addErr)
			}
			for _, day := range days {
				counted, countErr := date.Count(c, wrong, day)
				check("Count "+name, counted, countErr)
				counted, countErr = date.Count(c, day, wrong)
				check("Count "+name, counted, countErr)
			}
		}
		for _, n := range []int{-1, -2, -api.MaxDate, math.MinInt, math.MinInt + 1} {
			added, addErr := date.Add(c, 700, n)
			check("Add "+name, added, addErr)
			added, addErr = date.Add(c, api.MaxDate, n)
			check("Add "+name, added, addErr)
		}
		counted, countErr := date.Count(c, 1, 0)
		check("Count "+name, counted, countErr)
		counted, countErr = date.Count(c, api.MaxDate, api.MaxDate-1)
		check("Count "+name, counted, countErr)
	}
}

// P3: equal arguments yield equal results, also after other calls; the holidays are neither changed nor kept.
func TestBusinessAgain(t *testing.T) {
	for name, c := range calendars() {
		kept := slices.Clone(c.Holidays)
		for _, day := range someDays(c) {
			added, addErr := date.Add(c, day, 9)
			counted, countErr := date.Count(c, day/2, day)
			if date.Valid(api.Calendar{Holidays: []int{1, 0}}) || date.Business(api.Calendar{Weekend: daysOff(0)}, 7) {
				t.Error(name)
			}
			copied := api.Calendar{Weekend: c.Weekend, Holidays: slices.Clone(kept)}
			if got, err := date.Add(copied, day, 9); got != added || err != addErr {
				t.Error(name, day, got, added)
			}
			if got, err := date.Count(copied, day/2, day); got != counted || err != countErr {
				t.Error(name, day, got, counted)
			}
			for i := range copied.Holidays {
				copied.Holidays[i] = i
			}
			if got, err := date.Add(c, day, 9); got != added || err != addErr {
				t.Error(name, day, got, added)
			}
		}
		if !slices.Equal(kept, c.Holidays) {
			t.Error(name, "was changed")
		}
	}
}
