package quantity_test

import (
	"math"
	"math/big"
	"slices"
	"strings"
	"testing"

	"estoppel/api"
	"estoppel/quantity"
	"estoppel/ratio"
)

// of returns a ratio as it stands.
func of(num, den int) api.Ratio { return api.Ratio{Num: num, Den: den} }

// goods returns a unit of goods.
func goods(name string, base int, factor api.Ratio) api.Unit {
	return api.Unit{Name: name, Kind: api.UnitGoods, Base: base, Factor: factor}
}

// money returns a unit of money.
func money(name string, base int, factor api.Ratio) api.Unit {
	return api.Unit{Name: name, Kind: api.UnitMoney, Base: base, Factor: factor}
}

// trade returns the table of the chapter's examples.
func trade() []api.Unit {
	return []api.Unit{goods("t", 0, of(1, 1)), goods("kg", 0, of(1, 1000)), money("EUR", 2, of(1, 1)), money("ct", 2, of(1, 100))}
}

// amounts returns amounts, each given by its unit, numerator and denominator.
func amounts(numbers ...int) []api.Amount {
	var l []api.Amount
	for i := 0; i < len(numbers); i += 3 {
		l = append(l, api.Amount{Unit: numbers[i], Value: of(numbers[i+1], numbers[i+2])})
	}
	return l
}

// bases returns a table with a number of units, all of them base units of both kinds by turns.
func bases(number int) []api.Unit {
	var units []api.Unit
	for i := range number {
		units = append(units, api.Unit{Name: string(rune('a' + i)), Kind: 1 + i%2, Base: i, Factor: of(1, 1)})
	}
	return units
}

// parts returns a table with a number of units of one kind, all of them of the base unit with an index.
func parts(number, base int) []api.Unit {
	var units []api.Unit
	for i := range number {
		units = append(units, goods(strings.Repeat("x", 1+i), base, of(1+i, 997)))
		if i == base {
			units[i].Factor = of(1, 1)
		}
	}
	return units
}

// tables returns valid tables: with no units up to 20, with base units before and after the others, and with factors at the limits.
func tables() map[string][]api.Unit {
	return map[string][]api.Unit{
		"nil":            nil,
		"empty":          {},
		"one unit":       {goods("piece", 0, of(1, 1))},
		"trade":          trade(),
		"base at last":   {goods("kg", 2, of(1, 1000)), goods("g", 2, of(1, 1000000)), goods("t", 2, of(1, 1))},
		"mixed":          {money("ct", 3, of(1, 100)), goods("kg", 2, of(1, 1000)), goods("t", 2, of(1, 1)), money("EUR", 3, of(1, 1)), goods("cwt", 2, of(1, 20)), money("USD", 5, of(1, 1)), money("dime", 5, of(1, 10))},
		"factors of one": {goods("a", 0, of(1, 1)), goods("b", 0, of(1, 1)), goods("c", 0, of(1, 1))},
		"limits":         {goods("one", 0, of(1, 1)), goods("most", 0, of(api.MaxNum, 1)), goods("least", 0, of(1, api.MaxDen)), goods("near", 0, of(api.MaxNum, api.MaxDen-1)), goods("nearly", 0, of(api.MaxNum-1, api.MaxDen)), goods("less", 0, of(999983, 999979))},
		"products":       {goods("base", 0, of(1, 1)), goods("p", 0, of(2003*509, 1000)), goods("q", 0, of(2003*1999, 1)), goods("r", 0, of(1999*503, 997)), goods("s", 0, of(999983*999979, 1000)), goods("v", 0, of(1999, 997*1000)), goods("u", 0, of(2*3*5*7*11*13*17*19, 23*29*31))},
		"names":          {money("EUR", 0, of(1, 1)), money("eur", 0, of(1, 100)), money("EUR ", 2, of(1, 1)), money(" EUR", 2, of(3, 1)), money("€", 2, of(2, 3)), money("\x00", 2, of(1, 2)), money("\xff", 0, of(7, 1)), goods("EURO", 7, of(1, 1)), goods(strings.Repeat("EUR", 40), 7, of(1, 3))},
		"20 base units":  bases(20),
		"20, base first": parts(20, 0),
		"20, base last":  parts(20, 19),
		"20, base amid":  parts(20, 11),
		"other way":      {goods("b", 2, of(1, 3)), money("m", 1, of(1, 1)), goods("a", 2, of(1, 1)), money("n", 1, of(999999, 1000000))},
	}
}

// changed returns the mixed table after a change of one unit.
func changed(i int, change func(unit *api.Unit)) []api.Unit {
	units := tables()["mixed"]
	change(&units[i])
	return units
}

// factored returns the mixed table with another factor of one unit.
func factored(i int, factor api.Ratio) []api.Unit {
	return changed(i, func(unit *api.Unit) { unit.Factor = factor })
}

// based returns the mixed table with another base of one unit.
func based(i, base int) []api.Unit {
	return changed(i, func(unit *api.Unit) { unit.Base = base })
}

// fault is a table that is not valid, and the index of the first unit that is not.
type fault struct {
	units []api.Unit
	first int
}

// faults returns tables that are not valid, each for another reason.
func faults() map[string]fault {
	name := func(i int, name string) []api.Unit { return changed(i, func(unit *api.Unit) { unit.Name = name }) }
	kind := func(i, kind int) []api.Unit { return changed(i, func(unit *api.Unit) { unit.Kind = kind }) }
	return map[string]fault{
		"zero unit":                    {[]api.Unit{{}}, 0},
		"no name":                      {name(0, ""), 0},
		"no name at last":              {name(6, ""), 6},
		"two without names":            {[]api.Unit{goods("", 0, of(1, 1)), goods("", 0, of(1, 2))}, 0},
		"name of the one before":       {name(4, "EUR"), 4},
		"name of the first":            {name(6, "ct"), 6},
		"name of the last":             {name(0, "dime"), 6},
		"name of another kind":         {name(3, "t"), 3},
		"three times":                  {[]api.Unit{goods("t", 0, of(1, 1)), goods("t", 0, of(1, 2)), goods("t", 0, of(1, 3))}, 1},
		"kind 0":                       {kind(4, 0), 4},
		"kind 3":                       {kind(4, 3), 4},
		"kind -1":                      {kind(4, -1), 4},
		"least kind":                   {kind(4, math.MinInt), 4},
		"greatest kind":                {kind(4, math.MaxInt), 4},
		"kind of a base unit":          {[]api.Unit{{Name: "a", Kind: 0, Factor: of(1, 1)}}, 0},
		"same kind, 3":                 {[]api.Unit{{Name: "a", Kind: 3, Factor: of(1, 1)}, {Name: "b", Kind: 3, Factor: of(1, 2)}}, 0},
		"money of goods":               {kind(1, api.UnitMoney), 1},
		"goods of money":               {kind(6, api.UnitGoods), 6},
		"base of another kind":         {kind(3, api.UnitGoods), 0},
		"factor without values":        {factored(1, api.Ratio{}), 1},
		"factor 0":                     {factored(1, of(0, 1)), 1},
		"factor less than 0":           {factored(1, of(-1, 1000)), 1},
		"factor not in lowest terms":   {factored(1, of(2, 4)), 1},
		"factor of two negatives":      {factored(1, of(-1, -1000)), 1},
		"factor over 0":                {factored(1, of(1, 0)), 1},
		"factor too great":             {factored(1, of(api.MaxNum+1, 1)), 1},
		"factor too fine":              {factored(1, of(1, api.MaxDen+1)), 1},
		"greatest factor":              {factored(1, of(math.MaxInt, 1)), 1},
		"least factor":                 {factored(1, of(math.MinInt, math.MinInt)), 1},
		"factor of a base, 2":          {factored(2, of(2, 1)), 2},
		"factor of a base, 1/2":        {factored(2, of(1, 2)), 2},
		"factor of a base, -1":         {factored(2, of(-1, 1)), 2},
		"factor of a base, 2/2":        {factored(2, of(2, 2)), 2},
		"factor of a base, 0":          {factored(5, of(0, 1)), 5},
		"base -1":                      {based(4, -1), 4},
		"base after the last":          {based(4, 7), 4},
		"least base":                   {based(4, math.MinInt), 4},
		"greatest base":                {based(4, math.MaxInt), 4},
		"base -1 at first":             {based(0, -1), 0},
		"unit of a unit":               {based(4, 1), 4},
		"unit of a unit of money":      {based(6, 0), 6},
		"unit of a later unit":         {based(1, 4), 1},
		"base is no base unit":         {based(2, 4), 1},
		"two of each other":            {[]api.Unit{goods("a", 1, of(1, 1)), goods("b", 0, of(1, 1))}, 0},
		"three in a circle":            {[]api.Unit{goods("a", 1, of(1, 1)), goods("b", 2, of(1, 1)), goods("c", 0, of(1, 1))}, 0},
		"base in a circle":             {[]api.Unit{goods("x", 0, of(1, 1)), goods("a", 2, of(1, 1)), goods("b", 1, of(1, 1))}, 1},
		"base that is not valid":       {[]api.Unit{goods("a", 1, of(1, 2)), goods("b", 1, of(3, 1)), goods("c", 1, of(0, 1))}, 1},
		"base without a name":          {[]api.Unit{goods("a", 1, of(1, 2)), goods("", 1, of(1, 1))}, 1},
		"the first of two":             {[]api.Unit{goods("a", 0, of(1, 1)), goods("b", 0, of(0, 1)), goods("", 0, of(1, 1))}, 1},
		"21 units":                     {bases(21), 20},
		"21 units, base first":         {parts(21, 0), 20},
		"21 units, base last":          {parts(21, 20), 20},
		"30 units":                     {bases(30), 20},
		"300 units":                    {parts(300, 5), 20},
		"21 units, another at first":   {append(factored(0, of(0, 1)), parts(14, 7)...), 0},
		"21 units, name of another":    {append(bases(20), goods("a", 20, of(1, 1))), 20},
		"20 units, last of all":        {append(bases(19), goods("a", 19, of(1, 1))), 19},
		"20 units, base after the end": {append(bases(19), goods("z", 20, of(1, 1))), 19},
	}
}

// invalidRatios returns ratios that are not valid, each for another reason.
func invalidRatios() []api.Ratio {
	return []api.Ratio{
		{}, of(1, 0), of(0, 2), of(2, 4), of(-6, 3), of(1, -1), of(0, -1), of(api.MaxNum+1, 1), of(-api.MaxNum-1, 1), of(1, api.MaxDen+1),
		of(math.MinInt, 1), of(math.MaxInt, 1), of(1, math.MinInt), of(1, math.MaxInt), of(math.MinInt, math.MinInt),
	}
}

// noIndices returns numbers that are no indices of a table.
func noIndices(units []api.Unit) []int {
	return []int{-1, -2, -20, math.MinInt, math.MinInt + 1, len(units), len(units) + 1, len(units) + 20, 1 << 32, math.MaxInt - 1, math.MaxInt}
}

// P4.1, D1.
func TestValid(t *testing.T) {
	for name, units := range tables() {
		if i, ok := quantity.Valid(units); i != -1 || !ok {
			t.Error(name, i, ok)
		}
	}
	for name, test := range faults() {
		if i, ok := quantity.Valid(test.units); i != test.first || ok {
			t.Error(name, i, ok)
		}
	}
}

// P4.1, D1: the number of units.
func TestNumberOfUnits(t *testing.T) {
	for number := range 40 {
		want := -1
		if number > 20 {
			want = 20
		}
		for _, units := range [][]api.Unit{bases(number), parts(number, 0), parts(number, number-1)} {
			if i, ok := quantity.Valid(units); i != want || ok != (want < 0) {
				t.Error(number, i, ok)
			}
		}
	}
}

// firstInvalid returns what Valid must return for a table of at most 20 units whose factors are valid ratios.
func firstInvalid(units []api.Unit) (int, bool) {
	names := map[string]bool{"": true}
	for i, unit := range units {
		kinds := unit.Kind == api.UnitGoods || unit.Kind == api.UnitMoney
		ownBase := unit.Base == i && unit.Factor == of(1, 1)
		otherBase := unit.Base != i && unit.Base >= 0 && unit.Base < len(units) && units[unit.Base].Base == unit.Base && units[unit.Base].Kind == unit.Kind
		if names[unit.Name] || !kinds || unit.Factor.Num <= 0 || !ownBase && !otherBase {
			return i, false
		}
		names[unit.Name] = true
	}
	return -1, true
}

// smallUnits returns units with few names, kinds, bases and factors.
func smallUnits() []api.Unit {
	var all []api.Unit
	for _, name := range []string{"", "a", "b"} {
		for kind := range 3 {
			for base := -1; base <= 3; base++ {
				for _, factor := range []api.Ratio{of(1, 1), of(3, 2), of(-1, 1)} {
					all = append(all, api.Unit{Name: name, Kind: kind, Base: base, Factor: factor})
				}
			}
		}
	}
	return all
}

// P4.1, D1: all small tables of one and two units, and of three with the third as each of few.
func TestSmallTables(t *testing.T) {
	valid := 0
	check := func(units ...api.Unit) {
		want, wantOk := firstInvalid(units)
		if i, ok := quantity.Valid(units); i != want || ok != wantOk {
			t.Error(units, i, ok)
		}
		if wantOk {
			valid++
		}
	}
	for _, first := range smallUnits() {
		check(first)
		for _, second := range smallUnits() {
			check(first, second)
			for base := range 3 {
				check(first, second, goods("c", base, of(1, 1)))
				check(first, second, money("c", base, of(1, 5)))
			}
		}
	}
	if valid < 50 {
		t.Error("only", valid, "of the tables are valid")
	}
}

// P4.1: the examples of the chapter.
func TestExamples(t *testing.T) {
	for _, test := range []struct {
		a    api.Amount
		to   int
		want api.Amount
		err  api.Errno
	}{
		{api.Amount{Unit: 1, Value: of(500, 1)}, 0, api.Amount{Unit: 0, Value: of(1, 2)}, api.OK},
		{api.Amount{Unit: 0, Value: of(1, 2)}, 1, api.Amount{Unit: 1, Value: of(500, 1)}, api.OK},
		{api.Amount{Unit: 0, Value: of(3, 2)}, 1, api.Amount{Unit: 1, Value: of(1500, 1)}, api.OK},
		{api.Amount{Unit: 0, Value: of(1, 1)}, 2, api.Amount{}, api.ErrUnit},
	} {
		if got, err := quantity.Convert(trade(), test.a, test.to); got != test.want || err != test.err {
			t.Error(test.a, test.to, got, err)
		}
	}
	if got, err := quantity.Sum(trade(), amounts(2, 1, 1, 3, 5, 1), 3); got != (api.Amount{Unit: 3, Value: of(105, 1)}) || err != api.OK {
		t.Error(got, err)
	}
	if got, err := quantity.Basket(trade(), amounts(0, 1, 1, 1, 5, 1, 3, 7, 1)); !slices.Equal(got, []api.Ratio{of(201, 200), of(0, 1), of(7, 100), of(0, 1)}) || err != api.OK {
		t.Error(got, err)
	}
	if !quantity.Covers([]api.Ratio{of(1, 2)}, []api.Ratio{of(1, 3)}) || quantity.Covers([]api.Ratio{of(1, 2)}, nil) {
		t.Error("Covers")
	}
}

// number returns the number that a ratio with a denominator other than 0 stands for.
func number(a api.Ratio) *big.Rat {
	return new(big.Rat).SetFrac(big.NewInt(int64(a.Num)), big.NewInt(int64(a.Den)))
}

// ratioOf returns the ratio of a number, or ErrRange.
func ratioOf(x *big.Rat) (api.Ratio, api.Errno) {
	if x.Num().CmpAbs(big.NewInt(api.MaxNum)) > 0 || x.Denom().Cmp(big.NewInt(api.MaxDen)) > 0 {
		return api.Ratio{}, api.ErrRange
	}
	return of(int(x.Num().Int64()), int(x.Denom().Int64())), api.OK
}

// exactly returns the value of an amount in another unit with the same Base, without limits.
func exactly(units []api.Unit, a api.Amount, to int) *big.Rat {
	value := new(big.Rat).Mul(number(a.Value), number(units[a.Unit].Factor))
	return value.Quo(value, number(units[to].Factor))
}

// sumOf returns what Sum must return for valid arguments.
func sumOf(units []api.Unit, l []api.Amount, to int) (api.Amount, api.Errno) {
	for _, a := range l {
		if units[a.Unit].Base != units[to].Base {
			return api.Amount{}, api.ErrUnit
		}
	}
	total := new(big.Rat)
	for _, a := range l {
		value := exactly(units, a, to)
		total.Add(total, value)
		_, valueErr := ratioOf(value)
		if _, err := ratioOf(total); err != api.OK || valueErr != api.OK {
			return api.Amount{}, api.ErrRange
		}
	}
	value, err := ratioOf(total)
	return api.Amount{Unit: to, Value: value}, err
}

// basketOf returns what Basket must return for valid arguments.
func basketOf(units []api.Unit, l []api.Amount) ([]api.Ratio, api.Errno) {
	var basket []api.Ratio
	for i := range units {
		var own []api.Amount
		for _, a := range l {
			if units[a.Unit].Base == i {
				own = append(own, a)
			}
		}
		sum, err := sumOf(units, own, i)
		if err != api.OK {
			return nil, err
		}
		basket = append(basket, sum.Value)
	}
	return basket, api.OK
}

// values returns valid ratios: small ones, those at the limits, and others that have common divisors with factors.
func values() []api.Ratio {
	return []api.Ratio{
		of(0, 1), of(1, 1), of(-1, 1), of(2, 1), of(1, 2), of(-7, 3), of(500, 1), of(1500, 1), of(1, 1000), of(999, 1000), of(-1, 100), of(100, 7), of(5, 12),
		of(api.MaxNum, 1), of(-api.MaxNum, 1), of(api.MaxNum-1, 1), of(api.MaxNum/1000, 1), of(api.MaxNum/1000+1, 1), of(api.MaxNum/100, 1), of(1-api.MaxNum/100, 1), of(api.MaxDen, 1), of(api.MaxDen+1, 1),
		of(1, api.MaxDen), of(-1, api.MaxDen), of(3, api.MaxDen), of(1, api.MaxDen-1), of(1, api.MaxDen/1000), of(1, api.MaxDen/1000+1), of(api.MaxNum, api.MaxDen-1), of(-api.MaxNum, api.MaxDen-1), of(api.MaxNum-1, api.MaxDen),
		of(1999*503, 997), of(2003*509, 1000), of(-999983*503, 997), of(999983*999979, 1001), of(-999999000001, 999983), of(999983, 999979), of(999979, 999983), of(23*29*31, 2*3*5*7*11*13), of(1999*499*1000, 997), of(1000000, 999999), of(-997*1000, 1999),
	}
}

// P4.1, D2: the exact value, or ErrRange, or ErrUnit.
func TestConvert(t *testing.T) {
	count := map[api.Errno]int{}
	for name, units := range tables() {
		for from := range units {
			for to := range units {
				for _, value := range values() {
					a := api.Amount{Unit: from, Value: value}
					want, wantErr := sumOf(units, []api.Amount{a}, to)
					if got, err := quantity.Convert(units, a, to); got != want || err != wantErr {
						t.Error(name, a, to, got, err)
					}
					count[wantErr]++
				}
			}
		}
	}
	if count[api.OK] < 5000 || count[api.ErrRange] < 5000 || count[api.ErrUnit] < 5000 {
		t.Error("too few of", count)
	}
}

// P4.1, D2: values that are in range, although no product or quotient of two of the three ratios is.
func TestConvertWideNumbers(t *testing.T) {
	for i, test := range []struct{ value, from, to, want api.Ratio }{
		{of(1999*503, 997), of(2003*509, 1000), of(2003*1999, 1), of(503*509, 997*1000)},
		{of(-1999*503, 997), of(2003*509, 1000), of(2003*1999, 1), of(-503*509, 997*1000)},
		{of(2003*509, 1000), of(1999*503, 997), of(2003*1999, 1), of(503*509, 997*1000)},
		{of(1999*503, 997), of(2003*509, 1000), of(2003*1999, 101), of(503*509*101, 997*1000)},
		{of(-1999*503, 997), of(2003*509, 1000), of(2003*1999, 999983), of(-503*509*999983, 997*1000)},
		{of(999983*503, 997), of(999979*509, 1000), of(999983*999979, 1), of(503*509, 997*1000)},
	} {
		_, product := ratio.Mul(test.value, test.from)
		_, quotient := ratio.Div(test.value, test.to)
		_, factor := ratio.Div(test.from, test.to)
		if product != api.ErrRange || quotient != api.ErrRange || factor != api.ErrRange {
			t.Error(i, product, quotient, factor)
		}
		units := []api.Unit{goods("from", 2, test.from), goods("to", 2, test.to), goods("base", 2, of(1, 1))}
		a := api.Amount{Unit: 0, Value: test.value}
		if want, err := ratioOf(exactly(units, a, 1)); want != test.want || err != api.OK {
			t.Error(i, want, err)
		}
		if got, err := quantity.Convert(units, a, 1); got != (api.Amount{Unit: 1, Value: test.want}) || err != api.OK {
			t.Error(i, got, err)
		}
	}
}

// P4.1, D2: products that are out of range, but whose last 64 bits are those of 0, 1 or -1.
func TestConvertDoesNotWrap(t *testing.T) {
	for i, test := range []struct{ value, from, to api.Ratio }{
		{of(439125228929, 1), of(42007935, 1), of(1, 1)},
		{of(-439125228929, 1), of(42007935, 1), of(1, 1)},
		{of(42007935, 1), of(439125228929, 1), of(1, 1)},
		{of(-42007935, 1), of(439125228929, 1), of(1, 1)},
		{of(-439125228929, 1), of(42007935/255, 1), of(1, 255)},
		{of(1, 65537), of(1, 255*257), of(641*6700417, 1)},
		{of(-1, 65537), of(1, 255*257), of(641*6700417, 1)},
		{of(1<<39, 1), of(1<<39, 1), of(1, 1)},
		{of(-1<<39, 1), of(1<<39, 1), of(1, 1)},
		{of(1<<39, 1), of(1<<6, 1), of(1, 1<<19)},
		{of(1, 1<<19), of(1, 1<<19), of(1<<39, 1)},
		{of(-1, 1<<19), of(1, 1<<6), of(1<<39, 1)},
	} {
		units := []api.Unit{goods("from", 2, test.from), goods("to", 2, test.to), goods("base", 2, of(1, 1))}
		a := api.Amount{Unit: 0, Value: test.value}
		if _, err := ratioOf(exactly(units, a, 1)); err != api.ErrRange {
			t.Error(i, "is in range")
		}
		if got, err := quantity.Convert(units, a, 1); got != (api.Amount{}) || err != api.ErrRange {
			t.Error(i, got, err)
		}
	}
}

// P4.1, D2: values just in and just out of range.
func TestConvertAtTheLimits(t *testing.T) {
	units := append(tables()["limits"], goods("1/1000", 0, of(1, 1000)), goods("3", 0, of(3, 1)))
	for i, test := range []struct {
		value    api.Ratio
		from, to int
		want     api.Ratio
		err      api.Errno
	}{
		{of(1000000000, 1), 0, 6, of(api.MaxNum, 1), api.OK},
		{of(-1000000000, 1), 0, 6, of(-api.MaxNum, 1), api.OK},
		{of(1000000001, 1), 0, 6, api.Ratio{}, api.ErrRange},
		{of(-1000000001, 1), 0, 6, api.Ratio{}, api.ErrRange},
		{of(1, 1000), 6, 0, of(1, 1000000), api.OK},
		{of(1, 1001), 6, 0, api.Ratio{}, api.ErrRange},
		{of(1001, 1001), 6, 0, api.Ratio{}, api.ErrArg},
		{of(1, 333333), 0, 7, of(1, 999999), api.OK},
		{of(1, 333334), 0, 7, api.Ratio{}, api.ErrRange},
		{of(3, 333334), 0, 7, of(1, 333334), api.OK},
		{of(api.MaxNum, 1), 1, 1, of(api.MaxNum, 1), api.OK},
		{of(1, api.MaxDen), 2, 2, of(1, api.MaxDen), api.OK},
		{of(1, 1), 1, 2, api.Ratio{}, api.ErrRange},
		{of(1, api.MaxDen), 1, 2, of(api.MaxNum, 1), api.OK},
		{of(1, 1), 2, 1, api.Ratio{}, api.ErrRange},
		{of(api.MaxNum, 1), 2, 1, of(1, 1000000), api.OK},
		{of(0, 1), 1, 2, of(0, 1), api.OK},
		{of(0, 1), 2, 1, of(0, 1), api.OK},
		{of(api.MaxNum, api.MaxDen-1), 1, 3, of(api.MaxNum, 1), api.OK},
		{of(api.MaxNum, 1), 3, 1, of(api.MaxNum, api.MaxDen-1), api.OK},
	} {
		got, err := quantity.Convert(units, api.Amount{Unit: test.from, Value: test.value}, test.to)
		want := api.Amount{}
		if test.err == api.OK {
			want = api.Amount{Unit: test.to, Value: test.want}
		}
		if got != want || err != test.err {
			t.Error(i, got, err)
		}
	}
}
