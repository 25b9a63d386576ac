package quantity_test

import (
	"math"
	"math/rand"
	"slices"
	"testing"

	"estoppel/api"
	"estoppel/quantity"
	"estoppel/ratio"
)

// allTables returns tables of at most 20 units, valid ones and others.
func allTables() [][]api.Unit {
	var all [][]api.Unit
	for _, units := range tables() {
		all = append(all, units)
	}
	for _, test := range faults() {
		if len(test.units) <= api.MaxUnits {
			all = append(all, test.units)
		}
	}
	for _, first := range smallUnits() {
		for _, second := range smallUnits() {
			all = append(all, []api.Unit{first, second})
		}
	}
	return all
}

// P4.2: the same text appended to all names that are not empty.
func TestLongerNames(t *testing.T) {
	for _, units := range allTables() {
		want, wantOk := quantity.Valid(units)
		for _, text := range []string{"x", "t", " ", "\x00", "EUREUR", "€"} {
			longer := slices.Clone(units)
			for i := range longer {
				if longer[i].Name != "" {
					longer[i].Name += text
				}
			}
			if i, ok := quantity.Valid(longer); i != want || ok != wantOk {
				t.Error(units, text, i, ok)
			}
		}
	}
}

// rotated returns a table in which the unit with the index by is the first one, and the Bases are adjusted if they are indices.
func rotated(units []api.Unit, by int) []api.Unit {
	turned := append(slices.Clone(units[by:]), units[:by]...)
	for i := range turned {
		if base := turned[i].Base; base >= 0 && base < len(units) {
			turned[i].Base = (base - by + len(units)) % len(units)
		}
	}
	return turned
}

// P4.2: the units rotated.
func TestRotatedUnits(t *testing.T) {
	count := map[bool]int{}
	for _, units := range allTables() {
		_, want := quantity.Valid(units)
		for by := range units {
			if i, ok := quantity.Valid(rotated(units, by)); ok != want || ok != (i == -1) {
				t.Error(units, by, i, ok)
			}
			count[want]++
		}
	}
	if count[true] < 100 || count[false] < 100 {
		t.Error("too few of", count)
	}
}

// converter converts and adds until there is an error.
type converter struct {
	units []api.Unit
	err   api.Errno
}

// checked returns an amount, and keeps an error.
func (c *converter) checked(a api.Amount, err api.Errno) api.Amount {
	if err != api.OK {
		c.err = err
	}
	return a
}

// to returns an amount in another unit.
func (c *converter) to(unit int, a api.Amount) api.Amount {
	return c.checked(quantity.Convert(c.units, a, unit))
}

// sum returns the sum of amounts in a unit.
func (c *converter) sum(unit int, l ...api.Amount) api.Amount {
	return c.checked(quantity.Sum(c.units, l, unit))
}

// values returns the amount of a unit with the sum of two values.
func (c *converter) values(unit int, a, b api.Ratio) api.Amount {
	value, err := ratio.Add(a, b)
	return c.checked(api.Amount{Unit: unit, Value: value}, err)
}

// conversionLaws lists the laws of P4.3 to P4.5, each as two ways to compute the same.
func conversionLaws() map[string]func(c *converter, a, b api.Amount, second, third int) (api.Amount, api.Amount) {
	return map[string]func(c *converter, a, b api.Amount, second, third int) (api.Amount, api.Amount){
		"P4.3 there and back": func(c *converter, a, b api.Amount, second, third int) (api.Amount, api.Amount) {
			return c.to(a.Unit, c.to(second, a)), a
		},
		"P4.4 by way of a unit": func(c *converter, a, b api.Amount, second, third int) (api.Amount, api.Amount) {
			return c.to(third, c.to(second, a)), c.to(third, a)
		},
		"P4.5 linear, values": func(c *converter, a, b api.Amount, second, third int) (api.Amount, api.Amount) {
			b.Unit = a.Unit
			return c.to(second, c.values(a.Unit, a.Value, b.Value)), c.values(second, c.to(second, a).Value, c.to(second, b).Value)
		},
		"P4.5 linear, amounts": func(c *converter, a, b api.Amount, second, third int) (api.Amount, api.Amount) {
			return c.to(third, c.sum(second, a, b)), c.sum(third, c.to(second, a), c.to(second, b))
		},
	}
}

// P4.3, P4.4, P4.5.
func TestConversions(t *testing.T) {
	random := rand.New(rand.NewSource(3))
	for name, law := range conversionLaws() {
		compared := 0
		for table, units := range tables() {
			if len(units) == 0 {
				continue
			}
			for range 3000 {
				l := someAmounts(random, units, 2)
				c := &converter{units: units}
				left, right := law(c, l[0], l[1], random.Intn(len(units)), random.Intn(len(units)))
				if c.err == api.OK {
					compared++
					if left != right {
						t.Error(name, table, l, left, right)
					}
				}
			}
		}
		if compared < 1000 {
			t.Error(name, "was compared only", compared, "times")
		}
	}
}

// P4.6: the order of the amounts, and the sums of two lists.
func TestSums(t *testing.T) {
	random := rand.New(rand.NewSource(4))
	compared := 0
	for name, units := range tables() {
		for to := range units {
			for i := range 300 {
				l := within(units, someAmounts(random, units, i%9), to)
				c := &converter{units: units}
				whole := c.sum(to, l...)
				mixed := slices.Clone(l)
				random.Shuffle(len(mixed), func(i, j int) { mixed[i], mixed[j] = mixed[j], mixed[i] })
				other := c.sum(to, mixed...)
				slices.Reverse(mixed)
				last := c.sum(to, mixed...)
				cut := random.Intn(len(l) + 1)
				sums := c.sum(to, c.sum(to, l[:cut]...), c.sum(to, l[cut:]...))
				if c.err != api.OK {
					continue
				}
				compared++
				if whole != other || whole != last || whole != sums {
					t.Error(name, l, to, whole, other, last, sums)
				}
			}
		}
	}
	if compared < 5000 {
		t.Error("compared only", compared, "times")
	}
}

// added returns the sums of two baskets of one length, and whether they are in range.
func added(a, b []api.Ratio) ([]api.Ratio, bool) {
	all := true
	sums := slices.Clone(a)
	for i := range sums {
		sum, err := ratio.Add(a[i], b[i])
		sums[i], all = sum, all && err == api.OK
	}
	return sums, all
}

// P4.7: the basket of two lists.
func TestBasketOfTwoLists(t *testing.T) {
	random := rand.New(rand.NewSource(5))
	compared := 0
	for name, units := range tables() {
		for i := range 1000 {
			l := someAmounts(random, units, i%9)
			cut := random.Intn(len(l) + 1)
			whole, wholeErr := quantity.Basket(units, l)
			first, firstErr := quantity.Basket(units, l[:cut])
			second, secondErr := quantity.Basket(units, l[cut:])
			if wholeErr != api.OK || firstErr != api.OK || secondErr != api.OK {
				continue
			}
			compared++
			if sums, _ := added(first, second); !slices.Equal(whole, sums) || len(whole) != len(units) {
				t.Error(name, l, cut, whole, sums)
			}
		}
	}
	if compared < 1000 {
		t.Error("compared only", compared, "times")
	}
}

// P4.7: one of the amounts is converted first.
func TestBasketOfConvertedAmounts(t *testing.T) {
	random := rand.New(rand.NewSource(6))
	compared := 0
	for name, units := range tables() {
		if len(units) == 0 {
			continue
		}
		for i := range 1000 {
			l := someAmounts(random, units, 1+i%9)
			place, to := random.Intn(len(l)), random.Intn(len(units))
			converted := slices.Clone(l)
			a, convertErr := quantity.Convert(units, l[place], to)
			converted[place] = a
			before, beforeErr := quantity.Basket(units, l)
			after, afterErr := quantity.Basket(units, converted)
			if convertErr != api.OK || beforeErr != api.OK {
				continue
			}
			compared++
			if !slices.Equal(before, after) || afterErr != api.OK {
				t.Error(name, l, place, to, before, after, afterErr)
			}
		}
	}
	if compared < 1000 {
		t.Error("compared only", compared, "times")
	}
}

// baskets returns baskets of one length, many of which cover each other.
func baskets(random *rand.Rand) [][]api.Ratio {
	all := [][]api.Ratio{}
	few := []api.Ratio{of(-api.MaxNum, 1), of(-1, 1), of(-1, 2), of(0, 1), of(1, api.MaxDen), of(1, api.MaxDen-1), of(1, 2), of(1, 1), of(api.MaxNum-1, 1), of(api.MaxNum, 1)}
	for _, a := range few {
		for _, b := range few {
			all = append(all, []api.Ratio{a, b})
		}
	}
	for range 30 {
		a, _ := ratioOf(smallNumber(random))
		b, _ := ratioOf(smallNumber(random))
		all = append(all, []api.Ratio{a, b})
	}
	return all
}

// P4.8: each basket covers itself, and of two different ones at most one covers the other, as each number does.
func TestCoversIsAnOrder(t *testing.T) {
	all := baskets(rand.New(rand.NewSource(7)))
	for _, a := range all {
		for _, b := range all {
			want := number(a[0]).Cmp(number(b[0])) >= 0 && number(a[1]).Cmp(number(b[1])) >= 0
			if got := quantity.Covers(a, b); got != want {
				t.Error(a, b, got)
			}
			if both := quantity.Covers(a, b) && quantity.Covers(b, a); both != slices.Equal(a, b) {
				t.Error(a, b, both)
			}
			if !quantity.Covers(a, b) {
				continue
			}
			for _, c := range all {
				if quantity.Covers(b, c) && !quantity.Covers(a, c) {
					t.Error(a, b, c, "not transitive")
				}
			}
		}
	}
}

// P4.8: the same ratios are added to both baskets.
func TestCoversOfSums(t *testing.T) {
	all := baskets(rand.New(rand.NewSource(8)))
	count := map[bool]int{}
	for i, a := range all {
		for j, b := range all {
			same := all[(3*i+7*j)%len(all)]
			left, leftOk := added(a, same)
			right, rightOk := added(b, same)
			if !leftOk || !rightOk {
				continue
			}
			want := quantity.Covers(a, b)
			count[want]++
			if got := quantity.Covers(left, right); got != want {
				t.Error(a, b, same, got)
			}
		}
	}
	if count[true] < 1000 || count[false] < 1000 {
		t.Error("too few of", count)
	}
}

// wildRatio returns a ratio that may be valid or not.
func wildRatio(random *rand.Rand) api.Ratio {
	wild := []int{0, 1, -1, 2, api.MaxDen, api.MaxNum, math.MaxInt, math.MinInt, math.MinInt + 1, random.Int(), -random.Int()}
	if random.Intn(3) > 0 {
		all := values()
		return all[random.Intn(len(all))]
	}
	return of(wild[random.Intn(len(wild))], wild[random.Intn(len(wild))])
}

// wildIndex returns a number that may be an index of a table or not.
func wildIndex(random *rand.Rand) int {
	wild := []int{-1, 20, 21, math.MaxInt, math.MinInt}
	if random.Intn(12) > 0 {
		return random.Intn(4)
	}
	return wild[random.Intn(len(wild))]
}

// wildTable returns a table that may be valid or not.
func wildTable(random *rand.Rand) []api.Unit {
	units := append(trade(), goods("g", 0, wildRatio(random)))
	if random.Intn(2) == 0 {
		units = units[:random.Intn(len(units)+1)]
	}
	for i := range units {
		if random.Intn(12) == 0 {
			units[i] = api.Unit{Name: units[random.Intn(len(units))].Name, Kind: wildIndex(random), Base: wildIndex(random), Factor: wildRatio(random)}
		}
	}
	return units
}

// answer is what the functions return for some arguments.
type answer struct {
	first   int
	valid   bool
	convert api.Amount
	sum     api.Amount
	errs    [3]api.Errno
	covers  bool
}

// answers calls every function, and checks what is returned beside an error.
func answers(t *testing.T, units []api.Unit, l []api.Amount, to int) (answer, []api.Ratio) {
	got := answer{}
	a := api.Amount{Unit: to, Value: of(3, 2)}
	if len(l) > 0 {
		a = l[0]
	}
	var basket []api.Ratio
	got.first, got.valid = quantity.Valid(units)
	got.convert, got.errs[0] = quantity.Convert(units, a, to)
	got.sum, got.errs[1] = quantity.Sum(units, l, to)
	basket, got.errs[2] = quantity.Basket(units, l)
	got.covers = quantity.Covers(basket, slices.Repeat([]api.Ratio{of(0, 1)}, len(units)))
	for i, amount := range []api.Amount{got.convert, got.sum} {
		if err := got.errs[i]; err == api.OK && (amount.Unit != to || !ratio.Valid(amount.Value)) || err != api.OK && amount != (api.Amount{}) {
			t.Error(units, l, to, got)
		}
	}
	if err := got.errs[2]; err == api.OK && len(basket) != len(units) || err != api.OK && basket != nil {
		t.Error(units, l, basket, err)
	}
	if got.valid != (got.first == -1) || got.first >= len(units) || !got.valid && got.errs != [3]api.Errno{api.ErrArg, api.ErrArg, api.ErrArg} {
		t.Error(units, l, to, got)
	}
	return got, basket
}

// P1 and P3: no panic, zero values with an error, the same again for the same arguments, which stay as they are.
func TestAllArguments(t *testing.T) {
	random := rand.New(rand.NewSource(9))
	count := map[api.Errno]int{}
	for range 30000 {
		units := wildTable(random)
		var l []api.Amount
		for range random.Intn(4) {
			l = append(l, api.Amount{Unit: wildIndex(random), Value: wildRatio(random)})
		}
		to := wildIndex(random)
		sameUnits, sameAmounts := slices.Clone(units), slices.Clone(l)
		first, basket := answers(t, units, l, to)
		for i := range basket {
			basket[i] = of(7, 1)
		}
		basketErr := first.errs[2]
		second, again := answers(t, sameUnits, sameAmounts, to)
		if first != second || !slices.Equal(units, sameUnits) || !slices.Equal(l, sameAmounts) {
			t.Error(units, l, to, first, second)
		}
		if want, err := quantity.Basket(units, l); err != basketErr || !slices.Equal(want, again) {
			t.Error(units, l, want, again, err)
		}
		count[first.errs[1]]++
	}
	if count[api.OK] < 1000 || count[api.ErrArg] < 1000 || count[api.ErrUnit] < 1000 || count[api.ErrRange] < 100 {
		t.Error("too few of", count)
	}
}
