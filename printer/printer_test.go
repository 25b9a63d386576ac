package printer_test

import (
	"slices"
	"strings"
	"testing"

	"estoppel/api"
	"estoppel/parser"
	"estoppel/printer"
)

// sample is an item and its lines, without the last line feed.
type sample struct {
	item api.Item
	text string
}

// ratio returns a ratio as it is written.
func ratio(num, den int) api.Ratio { return api.Ratio{Num: num, Den: den} }

// named returns a span that is given by its name.
func named(name string) api.Span { return api.Span{Name: name} }

// declarations returns items that are no clauses.
func declarations() []sample {
	return []sample{
		{api.Item{Kind: api.ItemParty, Name: "party"}, "party party;"},
		{api.Item{Kind: api.ItemRole, Name: "buyer", Of: "a.b"}, "role buyer of a.b;"},
		{api.Item{Kind: api.ItemUnit, Name: "t", Word: api.UnitGoods}, "unit t goods;"},
		{api.Item{Kind: api.ItemUnit, Name: "EUR", Word: api.UnitMoney}, "unit EUR money;"},
		{api.Item{Kind: api.ItemUnit, Name: "kg", Word: api.UnitGoods, Num: ratio(1, 1000), Unit: "t"}, "unit kg goods = 1/1000 t;"},
		{api.Item{Kind: api.ItemUnit, Name: "kEUR", Word: api.UnitMoney, Num: ratio(1000, 1), Unit: "EUR"}, "unit kEUR money = 1000 EUR;"},
		{api.Item{Kind: api.ItemUnit, Name: "u", Word: api.UnitMoney, Num: ratio(0, 0), Unit: "v"}, "unit u money = 0/0 v;"},
		{api.Item{Kind: api.ItemWeekend, Days: [7]bool{5: true, 6: true}}, "weekend sat, sun;"},
		{api.Item{Kind: api.ItemWeekend, Days: [7]bool{0: true}}, "weekend mon;"},
		{api.Item{Kind: api.ItemWeekend, Days: [7]bool{true, true, true, true, true, true, true}}, "weekend mon, tue, wed, thu, fri, sat, sun;"},
		{api.Item{Kind: api.ItemHoliday, Dates: []api.Civil{{Year: 2026, Month: 12, Day: 25}}}, "holiday 2026-12-25;"},
		{api.Item{Kind: api.ItemHoliday, Dates: []api.Civil{{Year: 3, Month: 2, Day: 1}, {Month: 13, Day: 99}, {Year: 3, Month: 2, Day: 1}}}, "holiday 3-2-1, 0-13-99, 3-2-1;"},
		{api.Item{Kind: api.ItemSpan, Name: "short", Within: api.Span{Days: 3}}, "span short = 3 days;"},
		{api.Item{Kind: api.ItemSpan, Name: "long", Within: api.Span{Days: 30, Business: true}}, "span long = 30 business days;"},
		{api.Item{Kind: api.ItemSpan, Name: "no"}, "span no = 0 days;"},
		{api.Item{Kind: api.ItemSum, Name: "price", Num: ratio(7, 2), Unit: "EUR"}, "sum price = 7/2 EUR;"},
		{api.Item{Kind: api.ItemSum, Name: "fee", Num: ratio(0, 1), Unit: "EUR"}, "sum fee = 0 EUR;"},
		{api.Item{Kind: api.ItemSum, Name: "fee", Unit: "EUR"}, "sum fee = 0/0 EUR;"},
		{api.Item{Kind: api.ItemAct, Name: "pay", Word: api.ActDo, Of: "buyer"}, "act pay by buyer;"},
		{api.Item{Kind: api.ItemAct, Name: "storm", Word: api.ActDo}, "act storm by nature;"},
		{api.Item{Kind: api.ItemAct, Name: "pay", Word: api.ActDo, Of: "buyer", To: "nature"}, "act pay by buyer to nature;"},
		{api.Item{Kind: api.ItemAct, Name: "pay", Word: api.ActDo, Of: "buyer", Num: ratio(5, 1), Unit: "EUR"}, "act pay by buyer moves 5 EUR;"},
		{api.Item{Kind: api.ItemAct, Name: "pay", Word: api.ActDo, Num: ratio(5, 10), Unit: "EUR", To: "seller"}, "act pay by nature moves 5/10 EUR to seller;"},
		{api.Item{Kind: api.ItemAct, Name: "give", Word: api.ActAssign, Of: "buyer", Give: "seller", To: "acme"}, "act give by buyer assigns seller to acme;"},
		{api.Item{Kind: api.ItemAct, Name: "turn", Word: api.ActNovate, Give: "nature", To: "acme"}, "act turn by nature novates nature to acme;"},
	}
}

// clauses returns items that can be in templates.
func clauses() []sample {
	return []sample{
		{api.Item{Kind: api.ItemDuty, Name: "d", Of: "r", Act: "a", Times: 1, Within: api.Span{Days: 3}}, "duty d of r: a within 3 days;"},
		{api.Item{Kind: api.ItemDuty, Name: "nature", Of: "nature", Act: "nature", Times: 1, Within: named("nature")}, "duty nature of nature: nature within nature;"},
		{api.Item{Kind: api.ItemDuty, Name: "d", Of: "r", Act: "a", Within: api.Span{}, Grace: api.Span{Business: true}, Final: true}, "duty d of r: a 0 times within 0 days grace 0 business days final;"},
		{api.Item{Kind: api.ItemDuty, Name: "d", Of: "r", Act: "a", Times: 2, Within: api.Span{Days: 4, Business: true}, Grace: api.Span{Days: 1}}, "duty d of r: a 2 times within 4 business days grace 1 days;"},
		{
			api.Item{
				Kind: api.ItemDuty, Name: "d", Of: "r", Act: "a", Times: 9, Within: named("s"), Grace: named("g"), By: "b", Until: "e", Num: ratio(1, 3), Unit: "EUR", To: "s", Final: true,
				Conds: []api.Named{{Name: "x", Is: api.IsDone}, {Name: "y", Is: api.IsStarted}, {Name: "z", Is: api.IsFailed}, {Name: "x", Is: api.IsVoid}},
			},
			"duty d of r: a 9 times within s grace g if x done and y started and z failed and x void paused by b until e value 1/3 EUR to s final;",
		},
		{api.Item{Kind: api.ItemBan, Name: "b", Of: "r", Act: "a", Within: api.Span{Days: 3}}, "ban b of r: a for 3 days;"},
		{api.Item{Kind: api.ItemBan, Name: "b", Of: "r", Act: "a", Within: named("s"), Sum: "v", To: "t"}, "ban b of r: a for s value v to t;"},
		{
			api.Item{
				Kind: api.ItemBan, Name: "b", Of: "r", Act: "a", Within: api.Span{Days: 1, Business: true}, Conds: []api.Named{{Name: "d", Is: api.IsFailed}}, By: "x", Until: "y",
				Num: ratio(2, 1), Unit: "EUR", To: "t", Final: true,
			},
			"ban b of r: a for 1 business days if d failed paused by x until y value 2 EUR to t final;",
		},
		{api.Item{Kind: api.ItemOption, Name: "o", Of: "r", Act: "a", Within: api.Span{Days: 3}}, "option o of r: a within 3 days;"},
		{
			api.Item{
				Kind: api.ItemOption, Name: "o", Of: "r", Act: "a", Within: api.Span{Days: 3, Business: true}, Conds: []api.Named{{Name: "d", Is: api.IsVoid}, {Name: "e", Is: api.IsStarted}},
				By: "x", Until: "y",
			},
			"option o of r: a within 3 business days if d void and e started paused by x until y;",
		},
		{api.Item{Kind: api.ItemWatch, Name: "w", Act: "a", Within: named("s")}, "watch w: a within s;"},
		{api.Item{Kind: api.ItemWatch, Name: "w", Act: "a", Within: api.Span{Days: 400}, Conds: []api.Named{{Name: "d", Is: api.IsDone}}, By: "x", Until: "y"}, "watch w: a within 400 days if d done paused by x until y;"},
		{api.Item{Kind: api.ItemInclude, Of: "t", Name: "p.q"}, "include t as p.q();"},
		{api.Item{Kind: api.ItemInclude, Of: "t", Name: "p", Names: []string{"a"}}, "include t as p(a);"},
		{api.Item{Kind: api.ItemInclude, Of: "t", Name: "p", Names: []string{"a", "b", "a"}}, "include t as p(a, b, a);"},
	}
}

// templates returns templates with and without parameters and items.
func templates() []sample {
	all := sample{api.Item{Kind: api.ItemTemplate, Name: "t", Names: []string{"a", "b", "a"}}, "template t(a, b, a) {\n"}
	for _, inner := range clauses() {
		all.item.Items = append(all.item.Items, inner.item)
		all.text += "  " + inner.text + "\n"
	}
	all.text += "}"
	return []sample{
		{api.Item{Kind: api.ItemTemplate, Name: "t"}, "template t() {\n}"},
		{api.Item{Kind: api.ItemTemplate, Name: "template", Names: []string{"a"}}, "template template(a) {\n}"},
		{api.Item{Kind: api.ItemTemplate, Name: "t", Items: []api.Item{{Kind: api.ItemWatch, Name: "w", Act: "a", Within: named("s")}}}, "template t() {\n  watch w: a within s;\n}"},
		all,
	}
}

// samples returns items of all kinds.
func samples() []sample { return slices.Concat(declarations(), clauses(), templates()) }

// P8.1, H1: the chapter's examples.
func TestExamples(t *testing.T) {
	for _, test := range []struct{ text, want string }{
		{"contract c from 2026-01-05 for 030 days; weekend sun,sat;", "contract c from 2026-1-5 for 30 days;\nweekend sat, sun;\n"},
		{start + "duty d of a : x 1 times within 3 business days grace 0 days value 5/1 eur to b final ;", start + "duty d of a: x within 3 business days value 5 eur to b final;\n"},
		{start + "template t ( a , b ) { include u as p ( a ) ; }", start + "template t(a, b) {\n  include u as p(a);\n}\n"},
	} {
		tree, err, at := parser.Parse(test.text)
		if err != api.OK {
			t.Fatal(test.text, err, at)
		}
		expect(t, tree, test.want)
	}
}

// P8.1, H1: the first line, with all sorts of names and numbers.
func TestBeginning(t *testing.T) {
	expect(t, origin(), start)
	expect(t, api.Source{Name: "contract"}, "contract contract from 0-0-0 for 0 days;\n")
	expect(t, api.Source{Name: "a.b", From: api.Civil{Year: 999999999999, Month: 10, Day: 100}, Days: 999999999999}, "contract a.b from 999999999999-10-100 for 999999999999 days;\n")
	for _, tree := range []api.Source{
		{}, {Name: "9"}, {Name: "c", Days: -1}, {Name: "c", Days: 1000000000000}, {Name: "c", From: api.Civil{Year: -1}}, {Name: "c", From: api.Civil{Month: -1}}, {Name: "c", From: api.Civil{Day: -1}},
		{Name: "c", From: api.Civil{Year: 1000000000000}}, {Name: "c", From: api.Civil{Month: 1000000000000}}, {Name: "c", From: api.Civil{Day: 1000000000000}}, {Name: "c d"}, {Name: "c;"}, {Name: strings.Repeat("c", 25)},
	} {
		expectFault(t, tree, api.ErrArg)
	}
}

// P8.1, H1: items of all kinds with and without each of their optional parts, alone, between others, and in templates.
func TestItems(t *testing.T) {
	for _, one := range samples() {
		expect(t, origin(one.item), start+one.text+"\n")
		expect(t, origin(one.item, one.item), start+one.text+"\n"+one.text+"\n")
		for _, other := range samples() {
			expect(t, origin(other.item, one.item, api.Item{Kind: api.ItemParty, Name: "p"}), start+other.text+"\n"+one.text+"\nparty p;\n")
		}
	}
	for _, one := range clauses() {
		template := api.Item{Kind: api.ItemTemplate, Name: "t", Items: []api.Item{one.item}}
		text := "template t() {\n  " + one.text + "\n}\n"
		expect(t, origin(template), start+text)
		expect(t, origin(template, template, one.item), start+text+text+one.text+"\n")
	}
}

// P8.1, H1: only clauses and inclusions can be in a template, and nothing in them.
func TestItemsWithin(t *testing.T) {
	for _, one := range slices.Concat(declarations(), templates()) {
		for _, other := range clauses() {
			expectFault(t, origin(api.Item{Kind: api.ItemTemplate, Name: "t", Items: []api.Item{one.item}}), api.ErrArg)
			expectFault(t, origin(api.Item{Kind: api.ItemTemplate, Name: "t", Items: []api.Item{other.item, one.item}}), api.ErrArg)
		}
	}
	for _, one := range slices.Concat(declarations(), clauses()) {
		one.item.Items = []api.Item{{}}
		expectFault(t, origin(one.item), api.ErrArg)
		one.item.Items = []api.Item{clauses()[0].item}
		expectFault(t, origin(one.item), api.ErrArg)
		expectFault(t, origin(api.Item{Kind: api.ItemTemplate, Name: "t", Items: []api.Item{one.item}}), api.ErrArg)
	}
}

// P8.1, H1: kinds that there are not.
func TestKinds(t *testing.T) {
	for _, one := range samples() {
		for _, kind := range []int{0, -1, 15, 16, 1 << 40, -1 << 63} {
			one.item.Kind = kind
			expectFault(t, origin(one.item), api.ErrArg)
			expectFault(t, origin(api.Item{Kind: api.ItemParty, Name: "p"}, one.item), api.ErrArg)
			expectFault(t, origin(api.Item{Kind: api.ItemTemplate, Name: "t", Items: []api.Item{one.item}}), api.ErrArg)
		}
	}
	expectFault(t, origin(api.Item{}), api.ErrArg)
}

// P8.1, H1: a tree that is not printable at one place only is not printed, wherever that is.
func TestOneFault(t *testing.T) {
	for i := range samples() {
		var items []api.Item
		for _, one := range samples() {
			items = append(items, one.item)
		}
		if _, err := printer.Print(origin(items...)); err != api.OK {
			t.Fatal(err)
		}
		items[i].Kind = 0
		expectFault(t, origin(items...), api.ErrArg)
	}
	last := len(samples()) - 1
	for i := range samples()[last].item.Items {
		item := samples()[last].item
		item.Items[i].Final = item.Items[i].Kind == api.ItemOption || item.Items[i].Kind == api.ItemWatch || item.Items[i].Kind == api.ItemInclude
		item.Items[i].Give = "g"
		expectFault(t, origin(item), api.ErrArg)
	}
}

// P8.1: nil and empty slices are equivalent.
func TestEmptySlices(t *testing.T) {
	for _, one := range samples() {
		item := one.item
		if item.Conds == nil {
			item.Conds = []api.Named{}
		}
		if item.Dates == nil {
			item.Dates = []api.Civil{}
		}
		if item.Names == nil {
			item.Names = []string{}
		}
		if item.Items == nil {
			item.Items = []api.Item{}
		}
		expect(t, origin(item), start+one.text+"\n")
	}
	expect(t, api.Source{Name: "c", Items: []api.Item{}}, "contract c from 0-0-0 for 0 days;\n")
	expectFault(t, origin(api.Item{Kind: api.ItemHoliday, Dates: []api.Civil{}}), api.ErrArg)
}
