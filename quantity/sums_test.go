package quantity_test

import (
	"math/big"
	"math/rand"
	"slices"
	"testing"

	"estoppel/api"
	"estoppel/quantity"
)

// smallNumber returns a small number.
func smallNumber(random *rand.Rand) *big.Rat {
	return big.NewRat(random.Int63n(2001)-1000, random.Int63n(12)+1)
}

// someAmounts returns a list of amounts of a table, which is empty if the table is; in some lists more of the values are small than in others, since long sums of the others are seldom in range.
func someAmounts(random *rand.Rand, units []api.Unit, number int) []api.Amount {
	var l []api.Amount
	all := values()
	large := random.Intn(len(all))
	for i := 0; i < number && len(units) > 0; i++ {
		value := all[random.Intn(len(all))]
		if random.Intn(len(all)) >= large {
			value, _ = ratioOf(smallNumber(random))
		}
		l = append(l, api.Amount{Unit: random.Intn(len(units)), Value: value})
	}
	return l
}

// within returns the amounts whose units have the same Base as a unit.
func within(units []api.Unit, l []api.Amount, to int) []api.Amount {
	var own []api.Amount
	for _, a := range l {
		if units[a.Unit].Base == units[to].Base {
			own = append(own, a)
		}
	}
	return own
}

// P4.1, D3: the exact sum, or ErrRange, or ErrUnit.
func TestSum(t *testing.T) {
	random := rand.New(rand.NewSource(1))
	count := map[api.Errno]int{}
	for name, units := range tables() {
		for to := range units {
			for i := range 300 {
				l := someAmounts(random, units, i%9)
				if i%4 > 0 {
					l = within(units, l, to)
				}
				want, wantErr := sumOf(units, l, to)
				if got, err := quantity.Sum(units, l, to); got != want || err != wantErr {
					t.Error(name, l, to, got, err)
				}
				count[wantErr]++
			}
		}
	}
	if count[api.OK] < 2000 || count[api.ErrRange] < 2000 || count[api.ErrUnit] < 2000 {
		t.Error("too few of", count)
	}
}

// P4.1, D4: the exact sums of all base units, or ErrRange.
func TestBasket(t *testing.T) {
	random := rand.New(rand.NewSource(2))
	count := map[api.Errno]int{}
	for name, units := range tables() {
		for i := range 3000 {
			l := someAmounts(random, units, i%12)
			want, wantErr := basketOf(units, l)
			got, err := quantity.Basket(units, l)
			if !slices.Equal(got, want) || err != wantErr {
				t.Error(name, l, got, err)
			}
			count[wantErr]++
		}
	}
	if count[api.OK] < 5000 || count[api.ErrRange] < 5000 {
		t.Error("too few of", count)
	}
}

// P4.1, D3: values and sums of the first ones at the limits, in one unit and in others.
func TestSumAtTheLimits(t *testing.T) {
	most, least := api.MaxNum, -api.MaxNum
	for i, test := range []struct {
		l    []api.Amount
		to   int
		want api.Ratio
		err  api.Errno
	}{
		{nil, 0, of(0, 1), api.OK},
		{[]api.Amount{}, 3, of(0, 1), api.OK},
		{amounts(2, 1, 3, 2, 1, 6), 2, of(1, 2), api.OK},
		{amounts(2, 1, 3, 2, -1, 3), 3, of(0, 1), api.OK},
		{amounts(2, most, 1), 2, of(most, 1), api.OK},
		{amounts(2, most-1, 1, 2, 1, 1), 2, of(most, 1), api.OK},
		{amounts(2, most, 1, 2, 1, 1), 2, api.Ratio{}, api.ErrRange},
		{amounts(2, most, 1, 2, 1, 1, 2, -1, 1), 2, api.Ratio{}, api.ErrRange},
		{amounts(2, most, 1, 2, -1, 1, 2, 1, 1), 2, of(most, 1), api.OK},
		{amounts(2, -1, 1, 2, most, 1, 2, 1, 1), 2, of(most, 1), api.OK},
		{amounts(2, least, 1, 2, -1, 1, 2, 1, 1), 2, api.Ratio{}, api.ErrRange},
		{amounts(2, 1, 1, 2, least, 1, 2, -1, 1), 2, of(least, 1), api.OK},
		{amounts(2, most, 1, 3, 1, 1), 2, api.Ratio{}, api.ErrRange},
		{amounts(2, most/100, 1), 3, of(most, 1), api.OK},
		{amounts(2, most/100+1, 1), 3, api.Ratio{}, api.ErrRange},
		{amounts(3, -100, 1, 2, most/100+1, 1), 3, api.Ratio{}, api.ErrRange},
		{amounts(2, most/100, 1, 3, 1, 1, 3, -1, 1), 3, api.Ratio{}, api.ErrRange},
		{amounts(3, 1, 10000), 2, of(1, 1000000), api.OK},
		{amounts(3, 1, 10001), 2, api.Ratio{}, api.ErrRange},
		{amounts(3, 1, 10001, 3, -1, 10001), 2, api.Ratio{}, api.ErrRange},
		{amounts(2, 1, 1000, 2, 1, 999), 2, of(1999, 999000), api.OK},
		{amounts(2, 1, 1000, 2, 1, 1001), 2, api.Ratio{}, api.ErrRange},
		{amounts(2, 1, 1000, 2, 1, 1001, 2, -1, 1000), 2, api.Ratio{}, api.ErrRange},
		{amounts(2, 1, 1000, 2, -1, 1000, 2, 1, 1001), 2, of(1, 1001), api.OK},
	} {
		want := api.Amount{}
		if test.err == api.OK {
			want = api.Amount{Unit: test.to, Value: test.want}
		}
		if got, err := quantity.Sum(trade(), test.l, test.to); got != want || err != test.err {
			t.Error(i, got, err)
		}
	}
}

// P4.1, D4: sums for each base unit by itself, and values and sums of the first ones at the limits.
func TestBasketAtTheLimits(t *testing.T) {
	most := api.MaxNum
	zero := of(0, 1)
	for i, test := range []struct {
		l    []api.Amount
		want []api.Ratio
		err  api.Errno
	}{
		{nil, []api.Ratio{zero, zero, zero, zero}, api.OK},
		{[]api.Amount{}, []api.Ratio{zero, zero, zero, zero}, api.OK},
		{amounts(3, 7, 1), []api.Ratio{zero, zero, of(7, 100), zero}, api.OK},
		{amounts(1, 5, 1, 1, -5, 1), []api.Ratio{zero, zero, zero, zero}, api.OK},
		{amounts(0, most, 1, 2, most, 1), []api.Ratio{of(most, 1), zero, of(most, 1), zero}, api.OK},
		{amounts(0, most, 1, 2, -most, 1, 0, -1, 1, 2, 1, 1), []api.Ratio{of(most-1, 1), zero, of(1-most, 1), zero}, api.OK},
		{amounts(0, most, 1, 2, -1, 1, 0, 1, 1, 0, -1, 1), nil, api.ErrRange},
		{amounts(0, -1, 1, 2, most, 1, 0, most, 1, 0, 1, 1), []api.Ratio{of(most, 1), zero, of(most, 1), zero}, api.OK},
		{amounts(1, most, 1), []api.Ratio{of(most/1000, 1), zero, zero, zero}, api.OK},
		{amounts(1, 1, 1000), []api.Ratio{of(1, 1000000), zero, zero, zero}, api.OK},
		{amounts(1, 1, 1001), nil, api.ErrRange},
		{amounts(1, 1, 1001, 1, -1, 1001), nil, api.ErrRange},
		{amounts(2, 1, 1, 3, 1, 10001), nil, api.ErrRange},
		{amounts(0, 1, 1000, 2, 1, 1001), []api.Ratio{of(1, 1000), zero, of(1, 1001), zero}, api.OK},
		{amounts(0, 1, 1000, 0, 1, 1001), nil, api.ErrRange},
	} {
		if got, err := quantity.Basket(trade(), test.l); !slices.Equal(got, test.want) || err != test.err {
			t.Error(i, got, err)
		}
	}
	for _, units := range [][]api.Unit{nil, {}} {
		if got, err := quantity.Basket(units, nil); len(got) != 0 || err != api.OK {
			t.Error(got, err)
		}
	}
}

// expectErrArg checks that Sum refuses what is given to it, and Convert a single amount.
func expectErrArg(t *testing.T, name string, units []api.Unit, l []api.Amount, to int) {
	t.Helper()
	if got, err := quantity.Sum(units, l, to); got != (api.Amount{}) || err != api.ErrArg {
		t.Error(name, "Sum", l, to, got, err)
	}
	if len(l) != 1 {
		return
	}
	if got, err := quantity.Convert(units, l[0], to); got != (api.Amount{}) || err != api.ErrArg {
		t.Error(name, "Convert", l, to, got, err)
	}
}

// expectNoBasket checks that Basket refuses what is given to it.
func expectNoBasket(t *testing.T, name string, units []api.Unit, l []api.Amount) {
	t.Helper()
	if got, err := quantity.Basket(units, l); got != nil || err != api.ErrArg {
		t.Error(name, "Basket", l, got, err)
	}
}

// P4.1, D2 to D4, and P1: a table that is not valid is refused, whatever the amounts are.
func TestInvalidTables(t *testing.T) {
	for name, test := range faults() {
		lists := [][]api.Amount{nil, amounts(0, 1, 1), amounts(len(test.units)-1, 0, 1), amounts(0, api.MaxNum, 1, 0, api.MaxNum, 1), amounts(-1, 1, 1), amounts(0, 2, 4)}
		for _, l := range lists {
			for to := -1; to <= len(test.units); to++ {
				expectErrArg(t, name, test.units, l, to)
			}
			expectNoBasket(t, name, test.units, l)
		}
	}
}

// invalidAmounts returns amounts that are not valid for a table, each for another reason.
func invalidAmounts(units []api.Unit) []api.Amount {
	var l []api.Amount
	for _, unit := range noIndices(units) {
		l = append(l, api.Amount{Unit: unit, Value: of(1, 1)}, api.Amount{Unit: unit})
	}
	for unit := range units {
		for _, value := range invalidRatios() {
			l = append(l, api.Amount{Unit: unit, Value: value})
		}
	}
	return l
}

// P4.1, D2 to D4: amounts without a unit of the table or a valid value, alone or among others, which may have other units or be out of range.
func TestInvalidAmounts(t *testing.T) {
	for name, units := range tables() {
		for _, a := range invalidAmounts(units) {
			lists := [][]api.Amount{{a}}
			for unit := range units {
				lists = append(lists, append(amounts(unit, api.MaxNum, 1, unit, api.MaxNum, 1), a), append([]api.Amount{a}, amounts(unit, 1, api.MaxDen)...))
			}
			for _, l := range lists {
				expectNoBasket(t, name, units, l)
				for to := range units {
					expectErrArg(t, name, units, l, to)
				}
			}
		}
	}
}

// P4.1, D2 and D3: units that are not in the table.
func TestInvalidTargets(t *testing.T) {
	for name, units := range tables() {
		for _, to := range noIndices(units) {
			expectErrArg(t, name, units, nil, to)
			for unit := range units {
				expectErrArg(t, name, units, amounts(unit, 1, 1), to)
				expectErrArg(t, name, units, amounts(unit, api.MaxNum, 1, unit, api.MaxNum, 1), to)
			}
		}
	}
}

// P4.1, P1: ErrUnit goes before ErrRange, and ErrArg before both, wherever in the list the reasons are.
func TestOrderOfErrors(t *testing.T) {
	most := api.MaxNum
	for i, test := range []struct {
		l   []api.Amount
		to  int
		err api.Errno
	}{
		{amounts(2, most, 1), 0, api.ErrUnit},
		{amounts(2, most, 1), 3, api.ErrRange},
		{amounts(2, most, 1, 1, 5, 1), 3, api.ErrUnit},
		{amounts(2, most, 1, 2, most, 1, 0, 5, 1), 2, api.ErrUnit},
		{amounts(0, 5, 1, 2, most, 1, 2, most, 1), 2, api.ErrUnit},
		{amounts(2, 1, 1, 0, 5, 1, 2, 2, 4), 2, api.ErrArg},
		{amounts(2, most, 1, 2, most, 1, 2, 2, 4), 2, api.ErrArg},
		{amounts(0, 5, 1, 2, 1, 1, 4, 1, 1), 2, api.ErrArg},
		{amounts(0, 5, 1, 2, most, 1), 4, api.ErrArg},
		{amounts(0, 2, 4), 2, api.ErrArg},
	} {
		if got, err := quantity.Sum(trade(), test.l, test.to); got != (api.Amount{}) || err != test.err {
			t.Error(i, got, err)
		}
		if len(test.l) > 1 {
			continue
		}
		if got, err := quantity.Convert(trade(), test.l[0], test.to); got != (api.Amount{}) || err != test.err {
			t.Error(i, got, err)
		}
	}
}

// P4.1, D5.
func TestCovers(t *testing.T) {
	for i, test := range []struct {
		have, need []api.Ratio
		want       bool
	}{
		{nil, nil, true},
		{nil, []api.Ratio{}, true},
		{[]api.Ratio{of(0, 1)}, []api.Ratio{of(0, 1)}, true},
		{[]api.Ratio{of(0, 1)}, []api.Ratio{of(-1, 2)}, true},
		{[]api.Ratio{of(-1, 2)}, []api.Ratio{of(0, 1)}, false},
		{[]api.Ratio{of(-1, 3)}, []api.Ratio{of(-1, 2)}, true},
		{[]api.Ratio{of(2, 1), of(3, 1)}, []api.Ratio{of(2, 1), of(3, 1)}, true},
		{[]api.Ratio{of(2, 1), of(3, 1)}, []api.Ratio{of(2, 1), of(4, 1)}, false},
		{[]api.Ratio{of(2, 1), of(3, 1)}, []api.Ratio{of(3, 1), of(2, 1)}, false},
		{[]api.Ratio{of(2, 1), of(3, 1), of(9, 1)}, []api.Ratio{of(1, 1), of(4, 1), of(1, 1)}, false},
		{[]api.Ratio{of(api.MaxNum, api.MaxDen-1)}, []api.Ratio{of(api.MaxNum-1, api.MaxDen)}, true},
		{[]api.Ratio{of(api.MaxNum-1, api.MaxDen)}, []api.Ratio{of(api.MaxNum, api.MaxDen-1)}, false},
		{[]api.Ratio{of(1, api.MaxDen)}, []api.Ratio{of(1, api.MaxDen-1)}, false},
		{[]api.Ratio{of(1, 2)}, nil, false},
		{nil, []api.Ratio{of(0, 1)}, false},
		{nil, []api.Ratio{of(-1, 1)}, false},
		{[]api.Ratio{of(1, 1), of(1, 1)}, []api.Ratio{of(1, 1)}, false},
		{[]api.Ratio{of(1, 1)}, []api.Ratio{of(1, 1), of(-1, 1)}, false},
	} {
		if got := quantity.Covers(test.have, test.need); got != test.want {
			t.Error(i, got)
		}
	}
	long := slices.Repeat([]api.Ratio{of(1, 3)}, 1000)
	if !quantity.Covers(long, long) || quantity.Covers(long, append(slices.Clone(long[1:]), of(1, 2))) || quantity.Covers(long[1:], long) {
		t.Error("1000 ratios")
	}
}

// P4.1, D5: no basket with a ratio that is not valid is covered or covers another one, at whatever place it is.
func TestCoversNothingInvalid(t *testing.T) {
	for _, a := range invalidRatios() {
		for place := range 3 {
			for _, other := range append(values(), a) {
				valid := []api.Ratio{other, other, other}
				invalid := slices.Clone(valid)
				invalid[place] = a
				if quantity.Covers(valid, invalid) || quantity.Covers(invalid, valid) || quantity.Covers(invalid, invalid) || quantity.Covers(invalid, valid[1:]) {
					t.Error(a, place, other)
				}
			}
		}
	}
}
