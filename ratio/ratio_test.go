package ratio_test

import (
	"math"
	"math/big"
	"math/rand"
	"strings"
	"testing"

	"estoppel/api"
	"estoppel/ratio"
)

// operation is Add, Sub, Mul or Div.
type operation struct {
	name  string
	call  func(a, b api.Ratio) (api.Ratio, api.Errno)
	exact func(z, a, b *big.Rat) *big.Rat
}

// operations lists the operations, each with one of math/big that computes the same without limits.
func operations() []operation {
	return []operation{
		{"Add", ratio.Add, (*big.Rat).Add},
		{"Sub", ratio.Sub, (*big.Rat).Sub},
		{"Mul", ratio.Mul, (*big.Rat).Mul},
		{"Div", ratio.Div, (*big.Rat).Quo},
	}
}

// of returns a ratio as it stands.
func of(num, den int) api.Ratio { return api.Ratio{Num: num, Den: den} }

// number returns the number that a ratio with a denominator other than 0 stands for.
func number(a api.Ratio) *big.Rat {
	return new(big.Rat).SetFrac(big.NewInt(int64(a.Num)), big.NewInt(int64(a.Den)))
}

// ratioOf returns the ratio of a number, or ErrRange.
func ratioOf(x *big.Rat) (api.Ratio, api.Errno) {
	if x.Num().CmpAbs(big.NewInt(api.MaxNum)) > 0 || x.Denom().Cmp(big.NewInt(api.MaxDen)) > 0 {
		return api.Ratio{}, api.ErrRange
	}
	return of(int(x.Num().Int64()), int(x.Denom().Int64())), api.OK
}

// integers returns integers at and near the limits and the ends of the integers' own range.
func integers() []int {
	var all []int
	for _, n := range []int{0, 1, 2, 6, 1000, 1 << 31, api.MaxDen, api.MaxNum, 2 * api.MaxNum, math.MaxInt / 2, math.MaxInt - 1} {
		all = append(all, n-1, n, n+1, -n-1, -n, -n+1)
	}
	return append(all, math.MinInt, math.MinInt+1)
}

// invalid returns ratios that are not valid, each for another reason.
func invalid() []api.Ratio {
	return []api.Ratio{
		{}, of(1, 0), of(0, 2), of(2, 4), of(-6, 3), of(1, -1), of(0, -1), of(api.MaxNum+1, 1), of(-api.MaxNum-1, 1), of(1, api.MaxDen+1),
		of(math.MinInt, 1), of(math.MaxInt, 1), of(1, math.MinInt), of(1, math.MaxInt), of(math.MinInt, math.MinInt),
	}
}

// valid returns valid ratios: small ones, those at the limits, and others that are the same in each run.
func valid() []api.Ratio {
	all := []api.Ratio{
		of(0, 1), of(1, 1), of(-1, 1), of(1, 2), of(-1, 2), of(3, 2), of(-3, 2), of(1, 3), of(7, 3), of(1, 8), of(-3, 8), of(5, 12),
		of(api.MaxNum, 1), of(-api.MaxNum, 1), of(api.MaxNum-1, 1), of(api.MaxNum/2, 1), of(1, api.MaxDen), of(-1, api.MaxDen), of(1, api.MaxDen-1),
		of(api.MaxNum, api.MaxDen-1), of(-api.MaxNum, api.MaxDen-1), of(api.MaxNum-1, api.MaxDen), of(1-api.MaxNum, 17), of(17, api.MaxDen-1), of(api.MaxDen, 1), of(-api.MaxDen, 999983),
	}
	random := rand.New(rand.NewSource(1))
	for _, most := range []int64{20, 1000, api.MaxDen, api.MaxNum} {
		for range 30 {
			a, err := ratioOf(big.NewRat(random.Int63n(2*most+1)-most, random.Int63n(min(most, api.MaxDen))+1))
			if err == api.OK {
				all = append(all, a)
			}
		}
	}
	return all
}

// P1.1, A1.
func TestValid(t *testing.T) {
	for _, a := range valid() {
		if !ratio.Valid(a) {
			t.Error(a, "is valid")
		}
	}
	for _, a := range invalid() {
		if ratio.Valid(a) {
			t.Error(a, "is not valid")
		}
	}
	for num := -30; num <= 30; num++ {
		for den := -30; den <= 30; den++ {
			lowest := den > 0 && number(of(num, den)).Denom().Int64() == int64(den)
			if ratio.Valid(of(num, den)) != lowest {
				t.Error(num, den)
			}
		}
	}
}

// P1.1, P1.2: the examples of A1 and the edges of the range.
func TestMakeExamples(t *testing.T) {
	for _, test := range []struct {
		num, den int
		want     api.Ratio
		err      api.Errno
	}{
		{6, -4, of(-3, 2), api.OK},
		{-6, -4, of(3, 2), api.OK},
		{0, -7, of(0, 1), api.OK},
		{0, math.MinInt, of(0, 1), api.OK},
		{1, 0, api.Ratio{}, api.ErrArg},
		{0, 0, api.Ratio{}, api.ErrArg},
		{math.MinInt, 0, api.Ratio{}, api.ErrArg},
		{1, 1000000, of(1, 1000000), api.OK},
		{1, 1000001, api.Ratio{}, api.ErrRange},
		{3, 3000003, api.Ratio{}, api.ErrRange},
		{1000001, 2000002, of(1, 2), api.OK},
		{-1000000000000, 1, of(-1000000000000, 1), api.OK},
		{1000000000001, 1, api.Ratio{}, api.ErrRange},
		{-1000000000001, 1, api.Ratio{}, api.ErrRange},
		{2000000000000, 2, of(1000000000000, 1), api.OK},
		{math.MinInt, math.MinInt, of(1, 1), api.OK},
		{math.MinInt, math.MaxInt, api.Ratio{}, api.ErrRange},
		{math.MinInt, -1, api.Ratio{}, api.ErrRange},
		{math.MaxInt, -math.MaxInt, of(-1, 1), api.OK},
		{math.MinInt, -1 << 62, of(2, 1), api.OK},
	} {
		if got, err := ratio.Make(test.num, test.den); got != test.want || err != test.err {
			t.Error(test.num, test.den, got, err)
		}
	}
}

// P1.2: in lowest terms, and ErrRange exactly if out of range.
func TestMakeIsExact(t *testing.T) {
	for _, num := range integers() {
		for _, den := range integers() {
			got, err := ratio.Make(num, den)
			if den == 0 {
				if got != (api.Ratio{}) || err != api.ErrArg {
					t.Error(num, den, got, err)
				}
				continue
			}
			want, wantErr := ratioOf(number(of(num, den)))
			if got != want || err != wantErr || err == api.OK && !ratio.Valid(got) {
				t.Error(num, den, got, err)
			}
		}
	}
}

// P1.1, A2: the exact result, or ErrRange.
func TestOperationsAreExact(t *testing.T) {
	for _, op := range operations() {
		for _, a := range valid() {
			for _, b := range valid() {
				want, wantErr := api.Ratio{}, api.ErrArg
				if op.name != "Div" || b.Num != 0 {
					want, wantErr = ratioOf(op.exact(new(big.Rat), number(a), number(b)))
				}
				if got, err := op.call(a, b); got != want || err != wantErr {
					t.Error(op.name, a, b, got, err)
				}
			}
		}
	}
}

// P1.1, A2: the examples, and results just in and just out of range.
func TestOperationExamples(t *testing.T) {
	most, least := of(api.MaxNum, 1), of(-api.MaxNum, 1)
	for i, test := range []struct {
		call func(a, b api.Ratio) (api.Ratio, api.Errno)
		a, b api.Ratio
		want api.Ratio
		err  api.Errno
	}{
		{ratio.Add, of(1, 6), of(1, 3), of(1, 2), api.OK},
		{ratio.Add, of(api.MaxNum-1, 1), of(1, 1), most, api.OK},
		{ratio.Add, most, of(1, 1), api.Ratio{}, api.ErrRange},
		{ratio.Add, most, least, of(0, 1), api.OK},
		{ratio.Add, most, most, api.Ratio{}, api.ErrRange},
		{ratio.Add, of(1, 1000), of(1, 999), of(1999, 999000), api.OK},
		{ratio.Add, of(1, 1000), of(1, 1001), api.Ratio{}, api.ErrRange},
		{ratio.Sub, of(1, 6), of(1, 3), of(-1, 6), api.OK},
		{ratio.Sub, of(1-api.MaxNum, 1), of(1, 1), least, api.OK},
		{ratio.Sub, least, of(1, 1000000), api.Ratio{}, api.ErrRange},
		{ratio.Mul, of(2, 3), of(9, 4), of(3, 2), api.OK},
		{ratio.Mul, most, of(1, 1000000), of(1000000, 1), api.OK},
		{ratio.Mul, most, of(0, 1), of(0, 1), api.OK},
		{ratio.Mul, of(1000000, 1), of(-1000000, 1), least, api.OK},
		{ratio.Mul, of(1000001, 1), of(1000000, 1), api.Ratio{}, api.ErrRange},
		{ratio.Mul, least, least, api.Ratio{}, api.ErrRange},
		{ratio.Mul, of(1<<32, 1), of(1<<32, 1), api.Ratio{}, api.ErrRange},
		{ratio.Mul, of(1<<39, 3), of(-1<<25, 5), api.Ratio{}, api.ErrRange},
		{ratio.Mul, of(1, 1000), of(1, 1000), of(1, 1000000), api.OK},
		{ratio.Mul, of(1, 1000), of(1, 1001), api.Ratio{}, api.ErrRange},
		{ratio.Div, of(1, 2), of(0, 1), api.Ratio{}, api.ErrArg},
		{ratio.Div, of(0, 1), of(0, 1), api.Ratio{}, api.ErrArg},
		{ratio.Div, of(0, 1), least, of(0, 1), api.OK},
		{ratio.Div, of(1, 2), of(-3, 4), of(-2, 3), api.OK},
		{ratio.Div, most, most, of(1, 1), api.OK},
		{ratio.Div, of(1, 1), of(1000000, 1), of(1, 1000000), api.OK},
		{ratio.Div, of(1, 1), of(-1000001, 1), api.Ratio{}, api.ErrRange},
	} {
		if got, err := test.call(test.a, test.b); got != test.want || err != test.err {
			t.Error(i, got, err)
		}
	}
}

// P1.1, A2 to A4, and P1: what is not valid is refused, with zero values and before anything else.
func TestInvalidRatios(t *testing.T) {
	for _, a := range invalid() {
		for _, op := range operations() {
			for _, b := range append(invalid(), of(0, 1), of(3, 2), of(api.MaxNum, 1)) {
				if got, err := op.call(a, b); got != (api.Ratio{}) || err != api.ErrArg {
					t.Error(op.name, a, b, got, err)
				}
				if got, err := op.call(b, a); got != (api.Ratio{}) || err != api.ErrArg {
					t.Error(op.name, b, a, got, err)
				}
			}
		}
		if ratio.Cmp(a, of(7, 3)) != 0 || ratio.Cmp(of(-7, 3), a) != 0 || ratio.Cmp(a, a) != 0 {
			t.Error("Cmp", a)
		}
		if ratio.Floor(a) != 0 || ratio.Text(a) != "" {
			t.Error("Floor or Text", a)
		}
		if got, err := ratio.Round(a, 1); got != (api.Ratio{}) || err != api.ErrArg {
			t.Error("Round", a, got, err)
		}
	}
}

// P1.1, A3.
func TestRoundExamples(t *testing.T) {
	for _, test := range []struct {
		a     api.Ratio
		parts int
		want  api.Ratio
		err   api.Errno
	}{
		{of(1, 8), 4, of(0, 1), api.OK},
		{of(3, 8), 4, of(1, 2), api.OK},
		{of(-1, 8), 4, of(0, 1), api.OK},
		{of(-3, 8), 4, of(-1, 2), api.OK},
		{of(1, 2), 1, of(0, 1), api.OK},
		{of(3, 2), 1, of(2, 1), api.OK},
		{of(5, 2), 1, of(2, 1), api.OK},
		{of(-5, 2), 1, of(-2, 1), api.OK},
		{of(-7, 3), 1, of(-2, 1), api.OK},
		{of(2, 3), 100, of(67, 100), api.OK},
		{of(1, 1000000), 1000000, of(1, 1000000), api.OK},
		{of(1, 2), 0, api.Ratio{}, api.ErrArg},
		{of(1, 2), -1, api.Ratio{}, api.ErrArg},
		{of(1, 2), math.MinInt, api.Ratio{}, api.ErrArg},
		{of(1, 2), 1000001, api.Ratio{}, api.ErrArg},
		{of(1, 2), math.MaxInt, api.Ratio{}, api.ErrArg},
		{of(api.MaxNum, 999999), 1000000, api.Ratio{}, api.ErrRange},
		{of(999999999998, 7), 10, api.Ratio{}, api.ErrRange},
		{of(999999999998, 7), 7, of(999999999998, 7), api.OK},
		{of(-api.MaxNum, 1), 1000000, of(-api.MaxNum, 1), api.OK},
	} {
		if got, err := ratio.Round(test.a, test.parts); got != test.want || err != test.err {
			t.Error(test.a, test.parts, got, err)
		}
	}
}

// P1.1, A4, and P1.7.
func TestTextExamples(t *testing.T) {
	for text, a := range map[string]api.Ratio{
		"0": of(0, 1), "7": of(7, 1), "-7": of(-7, 1), "-3/2": of(-3, 2), "7/2": of(7, 2), "10/3": of(10, 3), "1/1000000": of(1, 1000000),
		"1000000000000": of(api.MaxNum, 1), "-1000000000000/999999": of(-api.MaxNum, 999999),
	} {
		if got := ratio.Text(a); got != text {
			t.Error(a, got)
		}
		if got, err := ratio.Parse(text); got != a || err != api.OK {
			t.Error(text, got, err)
		}
	}
	for _, text := range []string{
		"", "-", "/", "+1", "--1", "01", "00", "-0", "-01", "0/1", "0/2", "4/2", "1/1", "-2/1", "1/", "/2", "1/-2", "-1/-2", "1/+2", "1/02", "1/0", "0/0", " 1", "1 ", "1 /2", "1/ 2", "1\n", "1/2/3", "1//2",
		"1_0", "0x1", "1e3", "1.5", "one", "١", "1\x00", "1/2\x00", "\xff", "1000000000001", "-1000000000001", "1/1000001", "9223372036854775808", "-9223372036854775808", "1/9223372036854775808", "99999999999999999999/3",
		strings.Repeat("0", 5000) + "1", strings.Repeat("9", 100000), strings.Repeat("/", 5000),
	} {
		if got, err := ratio.Parse(text); got != (api.Ratio{}) || err != api.ErrNumber {
			t.Error(text, got, err)
		}
	}
}

// P1 and P3: no panic, zero values with an error, and the same again for the same arguments.
func TestAllArguments(t *testing.T) {
	all := integers()
	for i, num := range all {
		for j, den := range all {
			a, b := of(num, den), of(all[(i+7)%len(all)], all[(j+11)%len(all)])
			if first, second := answers(t, a, b, den), answers(t, a, b, den); first != second {
				t.Error(a, b, den, first, second)
			}
		}
	}
}

// answer is what the functions return for some arguments.
type answer struct {
	valid  bool
	ratios [7]api.Ratio
	errs   [7]api.Errno
	order  int
	floor  int
	text   string
}

// answers calls every function.
func answers(t *testing.T, a, b api.Ratio, n int) answer {
	got := answer{valid: ratio.Valid(a), order: ratio.Cmp(a, b), floor: ratio.Floor(a), text: ratio.Text(a)}
	for i, op := range operations() {
		got.ratios[i], got.errs[i] = op.call(a, b)
	}
	got.ratios[4], got.errs[4] = ratio.Make(a.Num, n)
	got.ratios[5], got.errs[5] = ratio.Round(a, n)
	got.ratios[6], got.errs[6] = ratio.Parse(got.text)
	for i, err := range got.errs {
		if (err == api.OK) != ratio.Valid(got.ratios[i]) || err != api.OK && got.ratios[i] != (api.Ratio{}) {
			t.Error(a, b, n, i, got)
		}
	}
	return got
}
