package zone_test

import (
	"math"
	"slices"
	"testing"

	"estoppel/api"
	"estoppel/zone"
)

// lastInstant is the last instant, and also the number of the last minute of all days.
const lastInstant = 105190559

// summer is the zone of the chapter's examples.
func summer() api.Zone { return zoneOf(60, 100000, 120, 200000, 60) }

// zoneOf returns a zone with an offset, and the instants and offsets of its changes by turns.
func zoneOf(offset int, changes ...int) api.Zone {
	z := api.Zone{Offset: offset}
	for i := 0; i < len(changes); i += 2 {
		z.Changes = append(z.Changes, api.Change{At: changes[i], Offset: changes[i+1]})
	}
	return z
}

// regular returns a zone with some changes, each some minutes after the one before it, to some offsets by turns.
func regular(first, apart, number int, offsets ...int) api.Zone {
	z := api.Zone{Offset: offsets[0]}
	for i := range number {
		z.Changes = append(z.Changes, api.Change{At: first + i*apart, Offset: offsets[(i+1)%len(offsets)]})
	}
	return z
}

// invalidZones returns time zones that are not valid, each for another reason.
func invalidZones() map[string]api.Zone {
	return map[string]api.Zone{
		"offset 841":              zoneOf(841),
		"offset -841":             zoneOf(-841),
		"offset 841, changed":     zoneOf(841, 6000, 0),
		"offset, greatest":        zoneOf(math.MaxInt),
		"offset, least":           zoneOf(math.MinInt),
		"to offset 841":           zoneOf(0, 6000, 841),
		"to offset -841":          zoneOf(0, 6000, -841),
		"to the greatest":         zoneOf(0, 6000, 60, 20000, math.MaxInt),
		"to the least":            zoneOf(0, 6000, math.MinInt, 20000, 60),
		"at the beginning":        zoneOf(0, 0, 60),
		"in the first days":       zoneOf(0, 5760, 60),
		"before the beginning":    zoneOf(0, -1, 60),
		"long before it":          zoneOf(0, math.MinInt, 60),
		"long before, then later": zoneOf(0, math.MinInt, 60, 6000, 0),
		"later, then long before": zoneOf(0, 6000, 60, math.MinInt, 0),
		"after the end":           zoneOf(0, lastInstant+1, 60),
		"long after it":           zoneOf(0, math.MaxInt, 60),
		"twice after the end":     zoneOf(0, lastInstant, 60, lastInstant+5761, 0),
		"twice at once":           zoneOf(0, 6000, 60, 6000, 0),
		"too soon":                zoneOf(0, 6000, 60, 11760, 0),
		"too soon at the end":     zoneOf(0, 6000, 60, lastInstant-5760, 0, lastInstant, 60),
		"backwards":               zoneOf(0, 20000, 60, 6000, 0),
		"backwards at the end":    zoneOf(0, 20000, 60, 40000, 0, lastInstant, 60, 60000, 0),
		"41 changes":              regular(5761, 5761, 41, 0, 60),
		"41 changes of nothing":   regular(1000000, 1000000, 41, 0),
	}
}

// noInstants returns numbers that are no instants.
func noInstants() []int {
	return []int{-1, -840, -1440, math.MinInt, math.MinInt + 1, lastInstant + 1, lastInstant + 840, 1 << 32, math.MaxInt - 1, math.MaxInt}
}

// noLocals returns days and minutes that are no local times.
func noLocals() [][2]int {
	return [][2]int{
		{-1, 0}, {-1, 1439}, {api.MaxDate + 1, 0}, {api.MaxDate + 1, 1439}, {5, -1}, {5, 1440}, {0, -1}, {0, 1440}, {api.MaxDate, -1}, {api.MaxDate, 1440}, {-1, 1440}, {1, -1440}, {-1, 2880},
		{math.MinInt, 0}, {math.MaxInt, 0}, {5, math.MinInt}, {5, math.MaxInt}, {math.MinInt, math.MinInt}, {math.MaxInt, math.MaxInt}, {math.MaxInt, math.MinInt}, {math.MinInt, math.MaxInt}, {math.MaxInt / 1440, 0}, {1 << 60, 7}, {-1 << 60, 7},
	}
}

// P3.1, C1: the zones on both sides of each bound.
func TestValid(t *testing.T) {
	for name, z := range zones() {
		if !zone.Valid(z) {
			t.Error(name, "is valid")
		}
	}
	for name, z := range invalidZones() {
		if zone.Valid(z) {
			t.Error(name, "is not valid")
		}
	}
	for _, minutes := range []int{-842, -841, -840, -839, -1, 0, 1, 839, 840, 841, 842, 1440} {
		want := minutes >= -840 && minutes <= 840
		if zone.Valid(zoneOf(minutes)) != want || zone.Valid(zoneOf(0, 5761, minutes)) != want || zone.Valid(zoneOf(0, 5761, 0, lastInstant, minutes)) != want {
			t.Error(minutes)
		}
	}
	for number := range 60 {
		if zone.Valid(regular(5761, 5761, number, 0, 60)) != (number <= 40) {
			t.Error(number)
		}
	}
}

// P3.1: the examples of the chapter.
func TestExamples(t *testing.T) {
	for _, test := range [][3]int{{0, 0, 60}, {99999, 69, 699}, {100000, 69, 760}} {
		if day, minute, err := zone.Local(summer(), test[0]); day != test[1] || minute != test[2] || err != api.OK {
			t.Error(test, day, minute, err)
		}
	}
	if all := zone.Instants(summer(), 69, 730); len(all) != 0 {
		t.Error(all)
	}
	for _, later := range []bool{false, true} {
		if at, err := zone.Instant(summer(), 69, 730, later); at != 100000 || err != api.OK {
			t.Error(later, at, err)
		}
	}
	if all := zone.Instants(summer(), 138, 1370); !slices.Equal(all, []int{199970, 200030}) {
		t.Error(all)
	}
	if from, to, err := zone.Span(summer(), 1); from != 1380 || to != 2820 || err != api.OK {
		t.Error(from, to, err)
	}
}

// P3.1, C2: the first and the last instant, and local days outside the range.
func TestLocalAtBothEnds(t *testing.T) {
	for i, test := range []struct {
		z               api.Zone
		at, day, minute int
		err             api.Errno
	}{
		{zoneOf(0), 0, 0, 0, api.OK}, {zoneOf(0), 1439, 0, 1439, api.OK}, {zoneOf(0), 1440, 1, 0, api.OK}, {zoneOf(0), lastInstant, 73048, 1439, api.OK},
		{zoneOf(-1), 0, 0, 0, api.ErrRange}, {zoneOf(-1), 1, 0, 0, api.OK}, {zoneOf(-1), lastInstant, 73048, 1438, api.OK},
		{zoneOf(1), 0, 0, 1, api.OK}, {zoneOf(1), lastInstant, 0, 0, api.ErrRange}, {zoneOf(1), lastInstant - 1, 73048, 1439, api.OK},
		{zoneOf(-840), 839, 0, 0, api.ErrRange}, {zoneOf(-840), 840, 0, 0, api.OK}, {zoneOf(-840), lastInstant, 73048, 599, api.OK},
		{zoneOf(840), 0, 0, 840, api.OK}, {zoneOf(840), lastInstant - 840, 73048, 1439, api.OK}, {zoneOf(840), lastInstant - 839, 0, 0, api.ErrRange},
		{zoneOf(840, 5761, -840), 5760, 4, 840, api.OK}, {zoneOf(840, 5761, -840), 5761, 3, 601, api.OK},
		{zoneOf(-840, 5761, 840), 5760, 3, 600, api.OK}, {zoneOf(-840, 5761, 840), 5761, 4, 841, api.OK},
		{zoneOf(0, lastInstant, 1), lastInstant - 1, 73048, 1438, api.OK}, {zoneOf(0, lastInstant, 1), lastInstant, 0, 0, api.ErrRange},
		{zoneOf(840, lastInstant, -840), lastInstant - 1, 0, 0, api.ErrRange}, {zoneOf(840, lastInstant, -840), lastInstant, 73048, 599, api.OK},
	} {
		if day, minute, err := zone.Local(test.z, test.at); day != test.day || minute != test.minute || err != test.err {
			t.Error(i, day, minute, err)
		}
	}
}

// P3.1, C3, C4: local times around changes, at both ends, and those that nothing stands for.
func TestInstantsOfLocalTimes(t *testing.T) {
	wide, back := zoneOf(-840, 100000, 840), zoneOf(840, 100000, -840)
	for i, test := range []struct {
		z           api.Zone
		day, minute int
		all         []int
		first, last int
		err         api.Errno
	}{
		{summer(), 69, 699, []int{99999}, 99999, 99999, api.OK}, {summer(), 69, 700, nil, 100000, 100000, api.OK}, {summer(), 69, 759, nil, 100000, 100000, api.OK}, {summer(), 69, 760, []int{100000}, 100000, 100000, api.OK},
		{summer(), 138, 1339, []int{199939}, 199939, 199939, api.OK}, {summer(), 138, 1340, []int{199940, 200000}, 199940, 200000, api.OK}, {summer(), 138, 1399, []int{199999, 200059}, 199999, 200059, api.OK}, {summer(), 138, 1400, []int{200060}, 200060, 200060, api.OK},
		{wide, 68, 1239, []int{99999}, 99999, 99999, api.OK}, {wide, 68, 1240, nil, 100000, 100000, api.OK}, {wide, 69, 0, nil, 100000, 100000, api.OK}, {wide, 70, 39, nil, 100000, 100000, api.OK}, {wide, 70, 40, []int{100000}, 100000, 100000, api.OK},
		{back, 68, 1239, []int{98319}, 98319, 98319, api.OK}, {back, 68, 1240, []int{98320, 100000}, 98320, 100000, api.OK}, {back, 70, 39, []int{99999, 101679}, 99999, 101679, api.OK}, {back, 70, 40, []int{101680}, 101680, 101680, api.OK},
		{zoneOf(0), 0, 0, []int{0}, 0, 0, api.OK}, {zoneOf(0), 73048, 1439, []int{lastInstant}, lastInstant, lastInstant, api.OK},
		{zoneOf(60), 0, 0, nil, 0, 0, api.ErrRange}, {zoneOf(60), 0, 59, nil, 0, 0, api.ErrRange}, {zoneOf(60), 0, 60, []int{0}, 0, 0, api.OK}, {zoneOf(60), 73048, 1439, []int{lastInstant - 60}, lastInstant - 60, lastInstant - 60, api.OK},
		{zoneOf(-60), 0, 0, []int{60}, 60, 60, api.OK}, {zoneOf(-60), 73048, 1379, []int{lastInstant}, lastInstant, lastInstant, api.OK}, {zoneOf(-60), 73048, 1380, nil, 0, 0, api.ErrRange}, {zoneOf(-60), 73048, 1439, nil, 0, 0, api.ErrRange},
		{zoneOf(0, lastInstant, 60), 73048, 1438, []int{lastInstant - 1}, lastInstant - 1, lastInstant - 1, api.OK}, {zoneOf(0, lastInstant, 60), 73048, 1439, nil, lastInstant, lastInstant, api.OK},
		{zoneOf(0, lastInstant, -60), 73048, 1379, []int{lastInstant - 60, lastInstant}, lastInstant - 60, lastInstant, api.OK}, {zoneOf(0, lastInstant, -60), 73048, 1380, []int{lastInstant - 59}, lastInstant - 59, lastInstant - 59, api.OK}, {zoneOf(0, lastInstant, -60), 73048, 1439, nil, 0, 0, api.ErrRange},
		{zoneOf(60, 100000, 60), 69, 700, []int{100000}, 100000, 100000, api.OK},
	} {
		if got := zone.Instants(test.z, test.day, test.minute); !slices.Equal(got, test.all) {
			t.Error(i, got)
		}
		if got, err := zone.Instant(test.z, test.day, test.minute, false); got != test.first || err != test.err {
			t.Error(i, got, err)
		}
		if got, err := zone.Instant(test.z, test.day, test.minute, true); got != test.last || err != test.err {
			t.Error(i, got, err)
		}
	}
}

// P3.1, C5: days whose beginning is skipped or occurs twice, days that are skipped as a whole, and both ends.
func TestSpans(t *testing.T) {
	for i, test := range []struct {
		z        api.Zone
		day      int
		from, to int
		err      api.Errno
	}{
		{zoneOf(0), 0, 0, 1440, api.OK}, {zoneOf(0), 73047, 105187680, 105189120, api.OK},
		{summer(), 69, 99300, 100680, api.OK}, {summer(), 138, 198600, 200100, api.OK},
		{zoneOf(60), 0, 0, 0, api.ErrRange}, {zoneOf(60), 1, 1380, 2820, api.OK}, {zoneOf(840), 73047, 105186840, 105188280, api.OK},
		{zoneOf(-840), 0, 840, 2280, api.OK}, {zoneOf(-840), 73047, 105188520, 105189960, api.OK},
		{zoneOf(0, 14400, 60), 9, 12960, 14400, api.OK}, {zoneOf(0, 14400, 60), 10, 14400, 15780, api.OK},
		{zoneOf(60, 14340, 0), 9, 12900, 14400, api.OK}, {zoneOf(60, 14340, 0), 10, 14400, 15840, api.OK}, {zoneOf(60, 14341, 0), 9, 12900, 14340, api.OK}, {zoneOf(60, 14341, 0), 10, 14340, 15840, api.OK},
		{zoneOf(-840, 15140, 840), 9, 13800, 15140, api.OK}, {zoneOf(-840, 15140, 840), 10, 15140, 15140, api.OK}, {zoneOf(-840, 15140, 840), 11, 15140, 16440, api.OK},
		{zoneOf(840, 14400, -840), 9, 12120, 13560, api.OK}, {zoneOf(840, 14400, -840), 10, 13560, 16680, api.OK},
		{zoneOf(840, lastInstant-1000, -840), 73047, 105186840, 105188280, api.OK}, {zoneOf(-840, lastInstant-1000, 840), 73047, 105188520, 105189559, api.OK},
	} {
		from, to, err := zone.Span(test.z, test.day)
		if from != test.from || to != test.to || err != test.err {
			t.Error(i, from, to, err)
		}
	}
}

// P3.1, P1: zones that are not valid, and what is no instant, no local time and no day that a span can have.
func TestErrors(t *testing.T) {
	for name, z := range invalidZones() {
		for _, at := range append(noInstants(), 0, 6000, lastInstant) {
			checkLocal(t, name, z, at)
		}
		for _, at := range append(noLocals(), [2]int{0, 0}, [2]int{69, 730}, [2]int{api.MaxDate, 1439}) {
			checkInstants(t, name, z, at)
		}
		for _, day := range []int{math.MinInt, -1, 0, 1, 69, api.MaxDate - 1, api.MaxDate, math.MaxInt} {
			checkSpan(t, name, z, day)
		}
	}
	for name, z := range zones() {
		for _, at := range noInstants() {
			checkLocal(t, name, z, at)
		}
		for _, at := range noLocals() {
			checkInstants(t, name, z, at)
		}
		for _, day := range []int{math.MinInt, math.MinInt + 1, -1440, -1, api.MaxDate, api.MaxDate + 1, 1 << 60, math.MaxInt - 1, math.MaxInt} {
			checkSpan(t, name, z, day)
		}
	}
}

// checkLocal checks that Local refuses its arguments.
func checkLocal(t *testing.T, name string, z api.Zone, at int) {
	t.Helper()
	if day, minute, err := zone.Local(z, at); day != 0 || minute != 0 || err != api.ErrArg {
		t.Error("Local", name, at, day, minute, err)
	}
}

// checkInstants checks that Instants and Instant refuse their arguments.
func checkInstants(t *testing.T, name string, z api.Zone, local [2]int) {
	t.Helper()
	if all := zone.Instants(z, local[0], local[1]); len(all) != 0 {
		t.Error("Instants", name, local, all)
	}
	for _, later := range []bool{false, true} {
		if at, err := zone.Instant(z, local[0], local[1], later); at != 0 || err != api.ErrArg {
			t.Error("Instant", name, local, later, at, err)
		}
	}
}

// checkSpan checks that Span refuses its arguments.
func checkSpan(t *testing.T, name string, z api.Zone, day int) {
	t.Helper()
	if from, to, err := zone.Span(z, day); from != 0 || to != 0 || err != api.ErrArg {
		t.Error("Span", name, day, from, to, err)
	}
}

// P3: equal arguments yield equal results, also after other calls; changes are neither changed nor kept, and results share no memory.
func TestAgain(t *testing.T) {
	for name, z := range zones() {
		kept := api.Zone{Offset: z.Offset, Changes: slices.Clone(z.Changes)}
		for _, at := range somePlaces(z) {
			first, firstErr := zone.Instant(z, at/1440, at%1440, true)
			all := zone.Instants(z, at/1440, at%1440)
			shown := slices.Clone(all)
			from, to, spanErr := zone.Span(z, at/1440)
			day, minute, localErr := zone.Local(z, at)
			copied := api.Zone{Offset: z.Offset, Changes: slices.Clone(z.Changes)}
			again := zone.Instants(copied, at/1440, at%1440)
			for i := range all {
				all[i] = -1
			}
			for i := range copied.Changes {
				copied.Changes[i] = api.Change{At: i, Offset: 9999}
			}
			if !slices.Equal(again, shown) || !slices.Equal(zone.Instants(z, at/1440, at%1440), shown) {
				t.Error("Instants", name, at, again, shown)
			}
			if got, err := zone.Instant(z, at/1440, at%1440, true); got != first || err != firstErr {
				t.Error("Instant", name, at, got, err)
			}
			if gotFrom, gotTo, err := zone.Span(z, at/1440); gotFrom != from || gotTo != to || err != spanErr {
				t.Error("Span", name, at, gotFrom, gotTo, err)
			}
			if gotDay, gotMinute, err := zone.Local(z, at); gotDay != day || gotMinute != minute || err != localErr {
				t.Error("Local", name, at, gotDay, gotMinute, err)
			}
		}
		if kept.Offset != z.Offset || !slices.Equal(kept.Changes, z.Changes) {
			t.Error(name, "was changed")
		}
	}
}
