package date_test

import (
	"math"
	"testing"
	"time"

	"estoppel/api"
	"estoppel/date"
)

// first is the date of day 0.
var first = time.Date(1990, time.January, 1, 0, 0, 0, 0, time.UTC)

// civil returns a date as it stands.
func civil(year, month, day int) api.Civil { return api.Civil{Year: year, Month: month, Day: day} }

// civilOf returns the date of a time.
func civilOf(at time.Time) api.Civil { return civil(at.Year(), int(at.Month()), at.Day()) }

// dayOf returns the day number of a date that exists.
func dayOf(t *testing.T, c api.Civil) int {
	t.Helper()
	day, err := date.Number(c)
	if err != api.OK {
		t.Fatal(c, err)
	}
	return day
}

// noDays returns numbers that are no day numbers.
func noDays() []int {
	return []int{-1, -7, -365, math.MinInt, math.MinInt + 1, api.MaxDate + 1, api.MaxDate + 2, 1 << 32, math.MaxInt - 1, math.MaxInt}
}

// P2.1, P2.2: the date and the weekday of every day number, and back.
func TestAllDays(t *testing.T) {
	for day := range api.MaxDate + 1 {
		at := first.AddDate(0, 0, day)
		c, err := date.Civil(day)
		if c != civilOf(at) || err != api.OK {
			t.Fatal(day, c, err)
		}
		if back, err := date.Number(c); back != day || err != api.OK {
			t.Fatal(day, c, back, err)
		}
		if weekday, err := date.Weekday(day); weekday != (int(at.Weekday())+6)%7 || err != api.OK {
			t.Fatal(day, weekday, err)
		}
	}
	if last := first.AddDate(0, 0, api.MaxDate); civilOf(last) != civil(2189, 12, 31) {
		t.Error(last)
	}
}

// P2.1: the examples of the chapter, and the first and last days.
func TestExamples(t *testing.T) {
	for day, c := range map[int]api.Civil{
		0:                 civil(1990, 1, 1),
		58:                civil(1990, 2, 28),
		59:                civil(1990, 3, 1),
		364:               civil(1990, 12, 31),
		365:               civil(1991, 1, 1),
		3711:              civil(2000, 2, 29),
		3712:              civil(2000, 3, 1),
		40235:             civil(2100, 2, 28),
		40236:             civil(2100, 3, 1),
		api.MaxDate:       civil(2189, 12, 31),
		api.MaxDate - 365: civil(2188, 12, 31),
	} {
		if got := dayOf(t, c); got != day {
			t.Error(c, got)
		}
		if got, err := date.Civil(day); got != c || err != api.OK {
			t.Error(day, got, err)
		}
	}
	if weekday, err := date.Weekday(3711); weekday != 1 || err != api.OK {
		t.Error(weekday, err)
	}
}

// P2.1, P2.2: the next day has the next date and the next weekday.
func TestNextDay(t *testing.T) {
	for day := range api.MaxDate {
		c, _ := date.Civil(day)
		next, _ := date.Civil(day + 1)
		following := next.Year == c.Year && next.Month == c.Month && next.Day == c.Day+1 ||
			next.Year == c.Year && next.Month == c.Month+1 && next.Day == 1 && c.Day >= 28 ||
			next == civil(c.Year+1, 1, 1) && c.Month == 12 && c.Day == 31
		weekday, _ := date.Weekday(day)
		nextWeekday, _ := date.Weekday(day + 1)
		if !following || nextWeekday != (weekday+1)%7 {
			t.Fatal(day, c, next, weekday, nextWeekday)
		}
	}
}

// P2.1, P2.3: Number accepts exactly the dates that exist.
func TestDatesThatExist(t *testing.T) {
	for year := 1986; year <= 2194; year++ {
		for month := -1; month <= 14; month++ {
			for day := -1; day <= 33; day++ {
				c := civil(year, month, day)
				at := time.Date(year, time.Month(month), day, 0, 0, 0, 0, time.UTC)
				want, wantErr := int(at.Sub(first).Hours())/24, api.OK
				if civilOf(at) != c || year < 1990 || year > 2189 {
					want, wantErr = 0, api.ErrArg
				}
				if got, err := date.Number(c); got != want || err != wantErr {
					t.Error(c, got, err)
				}
			}
		}
	}
}

// P2.1, P1: dates and numbers far out of range.
func TestNoDates(t *testing.T) {
	far := []int{math.MinInt, math.MinInt + 1, -1 << 32, -2000, -1, 0, 32, 1<<32 + 1, math.MaxInt - 1, math.MaxInt}
	for _, n := range far {
		for _, c := range []api.Civil{civil(n, 1, 1), civil(2000, n, 1), civil(2000, 1, n), civil(n, n, n), civil(1990+n, 1+n, 1+n)} {
			if c == civil(1990, 1, 1) {
				continue
			}
			if got, err := date.Number(c); got != 0 || err != api.ErrArg {
				t.Error(c, got, err)
			}
		}
	}
	for _, day := range noDays() {
		if c, err := date.Civil(day); c != (api.Civil{}) || err != api.ErrArg {
			t.Error("Civil", day, c, err)
		}
		if weekday, err := date.Weekday(day); weekday != 0 || err != api.ErrArg {
			t.Error("Weekday", day, weekday, err)
		}
	}
}

// P2.3: the length of each year, and its February 29.
func TestYears(t *testing.T) {
	for year := 1990; year <= 2189; year++ {
		leap := year%400 == 0 || year%4 == 0 && year%100 != 0
		length := dayOf(t, civil(year, 12, 31)) - dayOf(t, civil(year, 1, 1)) + 1
		_, err := date.Number(civil(year, 2, 29))
		if leap && (length != 366 || err != api.OK) || !leap && (length != 365 || err != api.ErrArg) {
			t.Error(year, length, err)
		}
		if march := dayOf(t, civil(year, 3, 1)) - dayOf(t, civil(year, 2, 28)); leap != (march == 2) || !leap != (march == 1) {
			t.Error(year, march)
		}
	}
}

// later returns the date that is some months later, and whether it is in range.
func later(c api.Civil, months int) (api.Civil, bool) {
	begin := time.Date(c.Year, time.Month(c.Month+months), 1, 0, 0, 0, 0, time.UTC)
	last := begin.AddDate(0, 1, -1)
	return civil(begin.Year(), int(begin.Month()), min(c.Day, last.Day())), begin.Year() >= 1990 && begin.Year() <= 2189
}

// P2.1, P2.4: the same day of the month or its last one, which does not decrease with the day; and back again.
func TestMonths(t *testing.T) {
	for _, months := range []int{-2400, -2399, -1201, -48, -13, -12, -11, -1, 0, 1, 2, 3, 11, 12, 13, 48, 1200, 2399, 2400} {
		before := 0
		for day := range api.MaxDate + 1 {
			c, _ := date.Civil(day)
			got, err := date.Months(day, months)
			want, in := later(c, months)
			if !in {
				if got != 0 || err != api.ErrRange {
					t.Fatal(c, months, got, err)
				}
				continue
			}
			if reached, _ := date.Civil(got); reached != want || err != api.OK || got < before {
				t.Fatal(c, months, reached, err, before)
			}
			before = got
			if back, err := date.Months(got, -months); c.Day <= 28 && (back != day || err != api.OK) {
				t.Fatal(c, months, got, back, err)
			}
		}
	}
}

// P2.1, P2.4: months with fewer days, leap years, and both ends of the calendar.
func TestMonthsExamples(t *testing.T) {
	for _, test := range []struct {
		from   api.Civil
		months int
		to     api.Civil
	}{
		{civil(1990, 1, 31), 1, civil(1990, 2, 28)},
		{civil(1990, 1, 30), 1, civil(1990, 2, 28)},
		{civil(1990, 1, 28), 1, civil(1990, 2, 28)},
		{civil(1992, 1, 31), 1, civil(1992, 2, 29)},
		{civil(2096, 1, 31), 49, civil(2100, 2, 28)},
		{civil(1990, 3, 31), -1, civil(1990, 2, 28)},
		{civil(1990, 3, 31), 1, civil(1990, 4, 30)},
		{civil(1990, 3, 31), 2, civil(1990, 5, 31)},
		{civil(2000, 2, 29), 12, civil(2001, 2, 28)},
		{civil(2000, 2, 29), 48, civil(2004, 2, 29)},
		{civil(1990, 12, 31), 1, civil(1991, 1, 31)},
		{civil(1991, 1, 31), -1, civil(1990, 12, 31)},
		{civil(1990, 1, 31), 2399, civil(2189, 12, 31)},
		{civil(2189, 12, 31), -2399, civil(1990, 1, 31)},
		{civil(2189, 12, 31), 0, civil(2189, 12, 31)},
		{civil(1990, 1, 1), 0, civil(1990, 1, 1)},
	} {
		if got, err := date.Months(dayOf(t, test.from), test.months); got != dayOf(t, test.to) || err != api.OK {
			t.Error(test, got, err)
		}
	}
	if got, err := date.Months(30, 1); got != 58 || err != api.OK {
		t.Error(got, err)
	}
}

// P2.1, P1: Months refuses what is no day number and too many months before it looks at the result.
func TestMonthsErrors(t *testing.T) {
	for _, test := range []struct {
		day, months int
		err         api.Errno
	}{
		{0, -1, api.ErrRange}, {0, 2400, api.ErrRange}, {0, -2400, api.ErrRange}, {30, -1, api.ErrRange}, {31, -2, api.ErrRange},
		{api.MaxDate, 1, api.ErrRange}, {api.MaxDate, 2400, api.ErrRange}, {api.MaxDate, -2400, api.ErrRange}, {api.MaxDate - 31, 2, api.ErrRange},
		{0, 2401, api.ErrArg}, {0, -2401, api.ErrArg}, {api.MaxDate, 2401, api.ErrArg}, {api.MaxDate, -2401, api.ErrArg},
		{100, math.MaxInt, api.ErrArg}, {100, math.MinInt, api.ErrArg}, {100, math.MinInt + 1, api.ErrArg}, {100, math.MaxInt - 100, api.ErrArg},
	} {
		if got, err := date.Months(test.day, test.months); got != 0 || err != test.err {
			t.Error(test, got, err)
		}
	}
	for _, day := range noDays() {
		for _, months := range []int{-2401, -1, 0, 1, 2400, math.MaxInt, math.MinInt} {
			if got, err := date.Months(day, months); got != 0 || err != api.ErrArg {
				t.Error(day, months, got, err)
			}
		}
	}
}

// P3: equal arguments yield equal results.
func TestDatesAgain(t *testing.T) {
	for day := 0; day <= api.MaxDate; day += 97 {
		c, _ := date.Civil(day)
		again, _ := date.Civil(day)
		months, err := date.Months(day, 7)
		sameMonths, sameErr := date.Months(day, 7)
		if c != again || dayOf(t, c) != dayOf(t, again) || months != sameMonths || err != sameErr {
			t.Error(day, c, again, months, sameMonths)
		}
	}
}
