package zone_test

import (
	"math/rand"
	"slices"
	"testing"

	"estoppel/api"
	"estoppel/zone"
)

// zones returns valid zones: without changes, with changes in both directions, of two signs and at both ends, and with as many as there can be.
func zones() map[string]api.Zone {
	return map[string]api.Zone{
		"UTC":                        {},
		"no changes":                 {Offset: 60, Changes: []api.Change{}},
		"behind":                     zoneOf(-300),
		"a quarter":                  zoneOf(345),
		"far ahead":                  zoneOf(840),
		"far behind":                 zoneOf(-840),
		"summer":                     summer(),
		"summer in the south":        regular(130000, 262800, 30, 660, 600),
		"forward over 0":             zoneOf(-30, 400000, 30),
		"backward over 0":            zoneOf(30, 400000, -30),
		"forward by a minute":        zoneOf(0, 400000, 1),
		"backward by a minute":       zoneOf(0, 400000, -1),
		"farthest forward":           zoneOf(-840, 400000, 840),
		"farthest backward":          zoneOf(840, 400000, -840),
		"the same offset":            zoneOf(60, 400000, 60, 500000, 60),
		"midnight is skipped":        zoneOf(0, 14400, 60),
		"midnight is the first":      zoneOf(60, 14340, 0),
		"midnight occurs twice":      zoneOf(60, 14341, 0),
		"a day is skipped":           zoneOf(-840, 15140, 840),
		"at the earliest":            zoneOf(840, 5761, -840),
		"at the earliest, forward":   zoneOf(-840, 5761, 840),
		"at the last instant":        zoneOf(-840, lastInstant, 840),
		"at the last one, backward":  zoneOf(840, lastInstant, -840),
		"in the last day":            zoneOf(-840, lastInstant-700, 840),
		"in the last day, backward":  zoneOf(840, lastInstant-700, -840),
		"before the last 1680":       zoneOf(840, lastInstant-1680, -840),
		"before them, forward":       zoneOf(-840, lastInstant-1680, 840),
		"40 changes, every 4 days":   regular(5761, 5761, 40, 840, -840),
		"40 changes up to the end":   regular(lastInstant-39*5761, 5761, 40, -840, 840),
		"40 changes, three offsets":  regular(9000, 2000000, 40, -60, 0, 60),
		"40 changes, forth and back": regular(77777, 5761, 40, 60, 600, -420, -840, 0, 840),
		"40 changes, scattered":      scattered(1),
		"40 more, scattered":         scattered(2),
	}
}

// scattered returns a zone with 40 changes at any instants to any offsets, the same in each run.
func scattered(seed int64) api.Zone {
	source := rand.New(rand.NewSource(seed))
	z := api.Zone{Offset: source.Intn(1681) - 840}
	at := 0
	for range 40 {
		at += 5761 + source.Intn(2000000)
		z.Changes = append(z.Changes, api.Change{At: at, Offset: source.Intn(1681) - 840})
	}
	return z
}

// window is a range of instants, or of local times, both of which are numbers of minutes.
type window struct{ low, high int }

// windows returns the ranges around the changes of a zone, at both ends and elsewhere, without overlaps and in increasing order.
func windows(z api.Zone) []window {
	all := []window{{0, 2000}}
	for _, change := range z.Changes {
		all = append(all, window{max(0, change.At-1800), min(lastInstant, change.At+1800)})
	}
	all = append(all, window{lastInstant - 2600, lastInstant}, window{50000000, 50000100}, window{3000000, 3000100})
	slices.SortFunc(all, func(a, b window) int { return a.low - b.low })
	for i := 1; i < len(all); i++ {
		all[i].low = max(all[i].low, all[i-1].high+1)
		all[i].high = max(all[i].high, all[i-1].high)
	}
	return all
}

// somePlaces returns numbers of minutes around the changes of a zone, at both ends and elsewhere.
func somePlaces(z api.Zone) []int {
	var all []int
	for _, w := range windows(z) {
		for at := w.low; at <= w.high; at += 97 {
			all = append(all, at)
		}
		all = append(all, w.high)
	}
	return all
}

// offsetAt returns the offset at an instant, as the chapter words it.
func offsetAt(z api.Zone, at int) int {
	offset := z.Offset
	for _, change := range z.Changes {
		if change.At <= at {
			offset = change.Offset
		}
	}
	return offset
}

// inverse returns the instants of all local times in a range, by trying all instants.
func inverse(z api.Zone, w window) map[int][]int {
	all := map[int][]int{}
	for at := max(0, w.low-840); at <= min(lastInstant, w.high+840); at++ {
		local := at + offsetAt(z, at)
		all[local] = append(all[local], at)
	}
	return all
}

// skippedBy returns the instants of all changes that skip a local time, as the chapter words it.
func skippedBy(z api.Zone, local int) []int {
	var all []int
	before := z.Offset
	for _, change := range z.Changes {
		if local >= change.At+before && local < change.At+change.Offset {
			all = append(all, change.At)
		}
		before = change.Offset
	}
	return all
}

// localOf returns the local time of an instant as a number of minutes, and whether it is in range.
func localOf(t *testing.T, z api.Zone, at int) (int, bool) {
	t.Helper()
	day, minute, err := zone.Local(z, at)
	if err != api.OK {
		if day != 0 || minute != 0 || err != api.ErrRange {
			t.Fatal(z, at, day, minute, err)
		}
		return 0, false
	}
	if day < 0 || day > api.MaxDate || minute < 0 || minute > 1439 {
		t.Fatal(z, at, day, minute)
	}
	return day*1440 + minute, true
}

// P3.1, C2: the local time is the instant plus the offset of the last change that is not later.
func TestLocalOfAllZones(t *testing.T) {
	for name, z := range zones() {
		for _, w := range windows(z) {
			for at := w.low; at <= w.high; at++ {
				want := at + offsetAt(z, at)
				got, in := localOf(t, z, at)
				if in != (want >= 0 && want <= lastInstant) || in && got != want {
					t.Fatal(name, at, got, in, want)
				}
			}
		}
	}
}

// P3.1, C3, C4: all instants of each local time, the first and the last one, or the change that skips it.
func TestInstantsOfAllZones(t *testing.T) {
	for name, z := range zones() {
		for _, w := range windows(z) {
			instants := inverse(z, w)
			for local := w.low; local <= w.high; local++ {
				want, wantErr := instants[local], api.OK
				if got := zone.Instants(z, local/1440, local%1440); !slices.Equal(got, want) {
					t.Fatal(name, local, got, want)
				}
				if len(want) == 0 {
					want = skippedBy(z, local)
				}
				if len(want) == 0 {
					want, wantErr = []int{0}, api.ErrRange
				}
				first, err := zone.Instant(z, local/1440, local%1440, false)
				last, lastErr := zone.Instant(z, local/1440, local%1440, true)
				if first != want[0] || err != wantErr || last != want[len(want)-1] || lastErr != wantErr {
					t.Fatal(name, local, first, err, last, lastErr)
				}
			}
		}
	}
}

// P3.2: each instant is among the instants of its local time, which are at most two and all have it.
func TestInverse(t *testing.T) {
	for name, z := range zones() {
		twice := 0
		for _, w := range windows(z) {
			for at := w.low; at <= w.high; at++ {
				local, in := localOf(t, z, at)
				if !in {
					continue
				}
				all := zone.Instants(z, local/1440, local%1440)
				if !slices.Contains(all, at) || len(all) > 2 || !slices.IsSorted(all) {
					t.Fatal(name, at, local, all)
				}
				for _, instant := range all {
					if got, in := localOf(t, z, instant); got != local || !in {
						t.Fatal(name, at, local, instant, got, in)
					}
				}
				twice += len(all) - 1
			}
		}
		backward := slices.ContainsFunc(z.Changes, func(c api.Change) bool { return c.Offset < offsetAt(z, c.At-1) })
		if backward != (twice > 0) {
			t.Error(name, twice, "instants whose local time occurs twice")
		}
	}
}

// P3.3: the instant that stands for a skipped time is the first one with a later local time.
func TestSkippedTimes(t *testing.T) {
	for name, z := range zones() {
		skipped := 0
		for _, w := range windows(z) {
			for local := w.low; local <= w.high; local++ {
				at, err := zone.Instant(z, local/1440, local%1440, false)
				if err != api.OK || len(zone.Instants(z, local/1440, local%1440)) > 0 {
					continue
				}
				skipped++
				after, in := localOf(t, z, at)
				if in && after <= local {
					t.Fatal(name, local, at, after)
				}
				if before, in := localOf(t, z, at-1); in && before >= local {
					t.Fatal(name, local, at, before)
				}
			}
		}
		forward := slices.ContainsFunc(z.Changes, func(c api.Change) bool { return c.Offset > offsetAt(z, c.At-1) })
		if forward != (skipped > 0) {
			t.Error(name, skipped, "local times are skipped")
		}
	}
}

// P3.4: a later local time does not stand for an earlier instant, and the last instant is not before the first one.
func TestOrder(t *testing.T) {
	for name, z := range zones() {
		if n := len(z.Changes); n > 0 && z.Changes[n-1].At > lastInstant-1680 {
			continue
		}
		earliest, latest := 0, 0
		for _, w := range windows(z) {
			for local := w.low; local <= w.high; local++ {
				first, err := zone.Instant(z, local/1440, local%1440, false)
				last, lastErr := zone.Instant(z, local/1440, local%1440, true)
				if err != lastErr {
					t.Fatal(name, local, err, lastErr)
				}
				if err != api.OK {
					continue
				}
				if first < earliest || last < latest || last < first {
					t.Fatal(name, local, first, earliest, last, latest)
				}
				earliest, latest = first, last
			}
		}
	}
}

// P3.5: without changes, the local time is the instant plus the offset, and has no other instant.
func TestFixedOffset(t *testing.T) {
	for offset := -840; offset <= 840; offset++ {
		z := zoneOf(offset)
		for _, at := range []int{0, 1, 839, 840, 841, 1439, 1440, 99999, 72000123, lastInstant - 841, lastInstant - 840, lastInstant - 839, lastInstant - 1, lastInstant} {
			want := at + offset
			if got, in := localOf(t, z, at); in != (want >= 0 && want <= lastInstant) || in && got != want {
				t.Fatal(offset, at, got, in)
			}
			all := zone.Instants(z, at/1440, at%1440)
			instant := at - offset
			if in := instant >= 0 && instant <= lastInstant; in && !slices.Equal(all, []int{instant}) || !in && len(all) > 0 {
				t.Fatal(offset, at, all)
			}
			if len(all) > 0 {
				continue
			}
			if got, err := zone.Instant(z, at/1440, at%1440, offset%2 == 0); got != 0 || err != api.ErrRange {
				t.Fatal(offset, at, got, err)
			}
		}
	}
}

// P3.6, C5: where a day ends, the next one begins; only day 0 can lack its beginning.
func TestDaysFollow(t *testing.T) {
	for name, z := range zones() {
		end := 0
		for day := range api.MaxDate {
			from, to, err := zone.Span(z, day)
			if day == 0 && z.Offset > 0 {
				if from != 0 || to != 0 || err != api.ErrRange {
					t.Fatal(name, from, to, err)
				}
				end, _ = zone.Instant(z, 1, 0, false)
				continue
			}
			if first, firstErr := zone.Instant(z, day, 0, false); from != first || err != api.OK || err != firstErr {
				t.Fatal(name, day, from, err, first, firstErr)
			}
			if day > 0 && from != end || to < from {
				t.Fatal(name, day, from, to, end)
			}
			end = to
		}
		if last, err := zone.Instant(z, api.MaxDate, 0, false); last != end || err != api.OK {
			t.Fatal(name, last, err, end)
		}
	}
}

// P3.6: no instant before the beginning of a day has this or a later local day.
func TestNothingBeforeDay(t *testing.T) {
	for name, z := range zones() {
		days := []int{1, 2, 500, 40000, api.MaxDate - 1}
		for _, change := range z.Changes {
			for day := change.At/1440 - 2; day <= change.At/1440+2; day++ {
				days = append(days, min(day, api.MaxDate-1))
			}
		}
		for _, day := range days {
			from, _, err := zone.Span(z, day)
			if err != api.OK {
				t.Fatal(name, day, err)
			}
			for at := max(0, from-3400); at < from; at++ {
				if local, _ := localOf(t, z, at); local >= day*1440 {
					t.Fatal(name, day, from, at, local)
				}
			}
		}
	}
}

// P3.7: if all offsets are increased by a number, all local times are later by it.
func TestMovedOffsets(t *testing.T) {
	for name, z := range zones() {
		for _, by := range []int{-1680, -840, -61, -1, 1, 30, 780, 1680} {
			moved := api.Zone{Offset: z.Offset + by, Changes: slices.Clone(z.Changes)}
			for i := range moved.Changes {
				moved.Changes[i].Offset += by
			}
			if !zone.Valid(moved) {
				continue
			}
			for _, at := range somePlaces(z) {
				local, in := localOf(t, z, at)
				later, inLater := localOf(t, moved, at)
				if in && inLater && later != local+by {
					t.Fatal(name, by, at, local, later)
				}
			}
		}
	}
}
