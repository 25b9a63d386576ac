package ratio_test

import (
	"math/big"
	"slices"
	"strconv"
	"testing"

	"estoppel/api"
	"estoppel/ratio"
)

// calculator computes until a result is out of range.
type calculator struct {
	err api.Errno
}

// do returns the result of an operation.
func (c *calculator) do(call func(a, b api.Ratio) (api.Ratio, api.Errno), a, b api.Ratio) api.Ratio {
	result, err := call(a, b)
	if err != api.OK {
		c.err = err
	}
	return result
}

// laws lists the laws of P1.3, each as two ways to compute the same.
func laws() map[string]func(c *calculator, x, y, z api.Ratio) (api.Ratio, api.Ratio) {
	add, sub, mul, div := ratio.Add, ratio.Sub, ratio.Mul, ratio.Div
	return map[string]func(c *calculator, x, y, z api.Ratio) (api.Ratio, api.Ratio){
		"order of a sum": func(c *calculator, x, y, z api.Ratio) (api.Ratio, api.Ratio) {
			return c.do(add, x, y), c.do(add, y, x)
		},
		"order of a product": func(c *calculator, x, y, z api.Ratio) (api.Ratio, api.Ratio) {
			return c.do(mul, x, y), c.do(mul, y, x)
		},
		"groups of a sum": func(c *calculator, x, y, z api.Ratio) (api.Ratio, api.Ratio) {
			return c.do(add, c.do(add, x, y), z), c.do(add, x, c.do(add, y, z))
		},
		"groups of a product": func(c *calculator, x, y, z api.Ratio) (api.Ratio, api.Ratio) {
			return c.do(mul, c.do(mul, x, y), z), c.do(mul, x, c.do(mul, y, z))
		},
		"product with a sum": func(c *calculator, x, y, z api.Ratio) (api.Ratio, api.Ratio) {
			return c.do(mul, x, c.do(add, y, z)), c.do(add, c.do(mul, x, y), c.do(mul, x, z))
		},
		"Sub undoes Add": func(c *calculator, x, y, z api.Ratio) (api.Ratio, api.Ratio) {
			return c.do(sub, c.do(add, x, y), y), x
		},
		"Div undoes Mul": func(c *calculator, x, y, z api.Ratio) (api.Ratio, api.Ratio) {
			if y.Num == 0 {
				return x, x
			}
			return c.do(div, c.do(mul, x, y), y), x
		},
	}
}

// P1.3.
func TestField(t *testing.T) {
	all := valid()
	for name, law := range laws() {
		compared := 0
		for i, x := range all {
			for j, y := range all {
				c := &calculator{}
				left, right := law(c, x, y, all[(i+3*j)%len(all)])
				if c.err == api.OK {
					compared++
					if left != right {
						t.Error(name, x, y, left, right)
					}
				}
			}
		}
		if compared < 1000 {
			t.Error(name, "was compared only", compared, "times")
		}
	}
}

// P1.4: the order of the numbers, which is total.
func TestOrder(t *testing.T) {
	all := valid()
	for _, a := range all {
		for _, b := range all {
			got := ratio.Cmp(a, b)
			if got != number(a).Cmp(number(b)) || got != -ratio.Cmp(b, a) || (got == 0) != (a == b) {
				t.Error(a, b, got)
			}
		}
	}
	slices.SortFunc(all, ratio.Cmp)
	for i, a := range all {
		for _, b := range all[i:] {
			if ratio.Cmp(a, b) > 0 {
				t.Error(a, b, "not transitive")
			}
		}
	}
	if ratio.Cmp(of(api.MaxNum, api.MaxDen-1), of(api.MaxNum-1, api.MaxDen)) != 1 || ratio.Cmp(of(-1, 3), of(-1, 2)) != 1 {
		t.Error("examples")
	}
}

// P1.4: sums and products with the same ratio keep the order.
func TestOrderIsKept(t *testing.T) {
	all := valid()
	for i, a := range all {
		for j, b := range all {
			same := all[(i+5*j)%len(all)]
			c := &calculator{}
			if left, right := c.do(ratio.Add, a, same), c.do(ratio.Add, b, same); c.err == api.OK && ratio.Cmp(left, right) != ratio.Cmp(a, b) {
				t.Error("added", a, b, same)
			}
			c = &calculator{}
			if left, right := c.do(ratio.Mul, a, same), c.do(ratio.Mul, b, same); same.Num > 0 && c.err == api.OK && ratio.Cmp(left, right) != ratio.Cmp(a, b) {
				t.Error("multiplied", a, b, same)
			}
		}
	}
}

// P1.5.
func TestFloor(t *testing.T) {
	for _, test := range []struct {
		a    api.Ratio
		want int
	}{
		{of(-1, 2), -1}, {of(7, 2), 3}, {of(-4, 1), -4}, {of(4, 1), 4}, {of(0, 1), 0}, {of(-1, 1000000), -1}, {of(1, 1000000), 0}, {of(999999, 1000000), 0}, {of(-1000001, 1000000), -2}, {of(-1000000000000, 1), -1000000000000}, {of(1000000000000, 999999), 1000001},
	} {
		if got := ratio.Floor(test.a); got != test.want {
			t.Error(test.a, got)
		}
	}
	for _, a := range valid() {
		floor := ratio.Floor(a)
		if number(of(floor, 1)).Cmp(number(a)) > 0 || number(of(floor+1, 1)).Cmp(number(a)) <= 0 {
			t.Error(a, floor)
		}
		for _, n := range []int{0, 1, -1, 5, -1000, api.MaxNum, -api.MaxNum} {
			if sum, err := ratio.Add(a, of(n, 1)); err == api.OK && ratio.Floor(sum) != floor+n {
				t.Error(a, n, ratio.Floor(sum))
			}
		}
	}
}

// nearest returns the number k / parts that is nearest to a; of two, the one with the even k.
func nearest(a api.Ratio, parts int) *big.Rat {
	k := new(big.Int).Div(new(big.Int).Mul(big.NewInt(int64(a.Num)), big.NewInt(int64(parts))), big.NewInt(int64(a.Den)))
	below := new(big.Rat).SetFrac(k, big.NewInt(int64(parts)))
	above := new(big.Rat).Add(below, big.NewRat(1, int64(parts)))
	order := new(big.Rat).Sub(number(a), below).Cmp(new(big.Rat).Sub(above, number(a)))
	if order > 0 || order == 0 && k.Bit(0) == 1 {
		return above
	}
	return below
}

// P1.6: the nearest multiple, within a half of 1 / parts, which is not rounded again.
func TestRound(t *testing.T) {
	for _, a := range valid() {
		for _, parts := range []int{1, 2, 3, 4, 10, 60, 100, 999, api.MaxDen - 1, api.MaxDen} {
			want, wantErr := ratioOf(nearest(a, parts))
			got, err := ratio.Round(a, parts)
			if got != want || err != wantErr {
				t.Error(a, parts, got, err)
			}
			if err != api.OK {
				continue
			}
			away := new(big.Rat).Sub(number(a), number(got))
			if away.Abs(away).Cmp(big.NewRat(1, int64(2*parts))) > 0 || parts%got.Den != 0 {
				t.Error(a, parts, got)
			}
			if again, err := ratio.Round(got, parts); again != got || err != api.OK {
				t.Error(a, parts, got, again, err)
			}
		}
	}
}

// P1.6: halves are rounded to even multiples, and a greater ratio is never rounded to a smaller one.
func TestRoundKeepsOrder(t *testing.T) {
	for parts := 1; parts <= 6; parts++ {
		last := of(-api.MaxNum, 1)
		for num := -120; num <= 120; num++ {
			a, _ := ratio.Make(num, 24)
			got, err := ratio.Round(a, parts)
			if want, _ := ratioOf(nearest(a, parts)); got != want || err != api.OK || ratio.Cmp(last, got) > 0 {
				t.Error(a, parts, got, err, last)
			}
			last = got
		}
	}
	all := valid()
	slices.SortFunc(all, ratio.Cmp)
	for _, parts := range []int{1, 7, 1000} {
		last := of(-api.MaxNum, 1)
		for _, a := range all {
			got, err := ratio.Round(a, parts)
			if err != api.OK {
				continue
			}
			if ratio.Cmp(last, got) > 0 {
				t.Error(a, parts, last, got)
			}
			last = got
		}
	}
}

// P1.7: Parse returns each valid ratio for its text.
func TestTexts(t *testing.T) {
	for _, a := range valid() {
		text := ratio.Text(a)
		if text != number(a).RatString() {
			t.Error(a, text)
		}
		if got, err := ratio.Parse(text); got != a || err != api.OK {
			t.Error(text, got, err)
		}
	}
}

// shortTexts returns the ratios with texts of at most 5 bytes.
func shortTexts() map[string]api.Ratio {
	texts := map[string]api.Ratio{}
	for num := -9999; num <= 99999; num++ {
		texts[strconv.Itoa(num)] = of(num, 1)
	}
	for num := -99; num <= 999; num++ {
		for den := 2; den <= 999; den++ {
			if number(of(num, den)).Denom().Int64() == int64(den) {
				texts[strconv.Itoa(num)+"/"+strconv.Itoa(den)] = of(num, den)
			}
		}
	}
	return texts
}

// P1.7: of all short texts, Parse accepts exactly those that are texts of ratios.
func TestParseAcceptsOnlyTexts(t *testing.T) {
	texts := shortTexts()
	shorter := []string{""}
	for range 5 {
		var longer []string
		for _, text := range shorter {
			for _, letter := range "0129-+/ " {
				longer = append(longer, text+string(letter))
			}
		}
		for _, text := range longer {
			want, found := texts[text]
			got, err := ratio.Parse(text)
			if got != want || (err == api.OK) != found || !found && err != api.ErrNumber {
				t.Error(text, got, err)
			}
		}
		shorter = longer
	}
}

// P1.8: small ratios have sums, differences, products and quotients.
func TestSmallRatiosAreExact(t *testing.T) {
	var small []api.Ratio
	for _, num := range []int{-1000, -999, -997, -500, -1, 0, 1, 2, 499, 991, 999, 1000} {
		for _, den := range []int{1, 2, 3, 7, 500, 983, 991, 997, 998, 999, 1000} {
			if ratio.Valid(of(num, den)) {
				small = append(small, of(num, den))
			}
		}
	}
	for _, op := range operations() {
		for _, a := range small {
			for _, b := range small {
				if _, err := op.call(a, b); err != api.OK && (op.name != "Div" || b.Num != 0) {
					t.Error(op.name, a, b, err)
				}
			}
		}
	}
	if got, err := ratio.Add(of(127, 1000), of(1, 999)); got != of(127873, 999000) || err != api.OK {
		t.Error(got, err)
	}
}
