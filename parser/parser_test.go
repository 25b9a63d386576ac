package parser_test

import (
	"math/rand"
	"slices"
	"strings"
	"testing"

	"estoppel/api"
	"estoppel/lexer"
	"estoppel/parser"
)

// sample is an item as it is written and as it is in the tree.
type sample struct {
	text string
	item api.Item
}

// ratio returns a ratio as it is written.
func ratio(num, den int) api.Ratio { return api.Ratio{Num: num, Den: den} }

// named returns a span that is given by its name.
func named(name string) api.Span { return api.Span{Name: name} }

// declarations returns items that are no clauses.
func declarations() []sample {
	return []sample{
		{"party seller;", api.Item{Kind: api.ItemParty, Name: "seller"}},
		{"role buyer of acme;", api.Item{Kind: api.ItemRole, Name: "buyer", Of: "acme"}},
		{"unit t goods;", api.Item{Kind: api.ItemUnit, Name: "t", Word: api.UnitGoods}},
		{"unit EUR money;", api.Item{Kind: api.ItemUnit, Name: "EUR", Word: api.UnitMoney}},
		{"unit kg goods = 1/1000 t;", api.Item{Kind: api.ItemUnit, Name: "kg", Word: api.UnitGoods, Num: ratio(1, 1000), Unit: "t"}},
		{"unit kEUR money = 1000 EUR;", api.Item{Kind: api.ItemUnit, Name: "kEUR", Word: api.UnitMoney, Num: ratio(1000, 1), Unit: "EUR"}},
		{"weekend sat, sun;", api.Item{Kind: api.ItemWeekend, Days: [7]bool{5: true, 6: true}}},
		{"weekend mon;", api.Item{Kind: api.ItemWeekend, Days: [7]bool{0: true}}},
		{"weekend sun, sat, fri, thu, wed, tue, mon, fri;", api.Item{Kind: api.ItemWeekend, Days: [7]bool{true, true, true, true, true, true, true}}},
		{"holiday 2026-12-25;", api.Item{Kind: api.ItemHoliday, Dates: []api.Civil{{Year: 2026, Month: 12, Day: 25}}}},
		{"holiday 2026-12-25, 0-13-99, 2026-12-25;", api.Item{Kind: api.ItemHoliday, Dates: []api.Civil{{Year: 2026, Month: 12, Day: 25}, {Year: 0, Month: 13, Day: 99}, {Year: 2026, Month: 12, Day: 25}}}},
		{"span short = 3 days;", api.Item{Kind: api.ItemSpan, Name: "short", Within: api.Span{Days: 3}}},
		{"span long = 30 business days;", api.Item{Kind: api.ItemSpan, Name: "long", Within: api.Span{Days: 30, Business: true}}},
		{"sum price = 7/2 EUR;", api.Item{Kind: api.ItemSum, Name: "price", Num: ratio(7, 2), Unit: "EUR"}},
		{"sum fee = 9 EUR;", api.Item{Kind: api.ItemSum, Name: "fee", Num: ratio(9, 1), Unit: "EUR"}},
		{"act pay by buyer;", api.Item{Kind: api.ItemAct, Name: "pay", Word: api.ActDo, Of: "buyer"}},
		{"act storm by nature;", api.Item{Kind: api.ItemAct, Name: "storm", Word: api.ActDo}},
		{"act pay by buyer to seller;", api.Item{Kind: api.ItemAct, Name: "pay", Word: api.ActDo, Of: "buyer", To: "seller"}},
		{"act pay by buyer moves 5 EUR;", api.Item{Kind: api.ItemAct, Name: "pay", Word: api.ActDo, Of: "buyer", Num: ratio(5, 1), Unit: "EUR"}},
		{"act pay by nature moves 5/10 EUR to seller;", api.Item{Kind: api.ItemAct, Name: "pay", Word: api.ActDo, Num: ratio(5, 10), Unit: "EUR", To: "seller"}},
		{"act give by buyer assigns seller to acme;", api.Item{Kind: api.ItemAct, Name: "give", Word: api.ActAssign, Of: "buyer", Give: "seller", To: "acme"}},
		{"act give by nature assigns seller to nature;", api.Item{Kind: api.ItemAct, Name: "give", Word: api.ActAssign, Give: "seller", To: "nature"}},
		{"act turn by buyer novates nature to acme;", api.Item{Kind: api.ItemAct, Name: "turn", Word: api.ActNovate, Of: "buyer", Give: "nature", To: "acme"}},
		{"act turn by nature novates buyer to acme;", api.Item{Kind: api.ItemAct, Name: "turn", Word: api.ActNovate, Give: "buyer", To: "acme"}},
	}
}

// clauses returns items that can be in templates.
func clauses() []sample {
	return []sample{
		{"duty d of r: a within 3 days;", api.Item{Kind: api.ItemDuty, Name: "d", Of: "r", Act: "a", Times: 1, Within: api.Span{Days: 3}}},
		{"duty d of nature: nature within s;", api.Item{Kind: api.ItemDuty, Name: "d", Of: "nature", Act: "nature", Times: 1, Within: named("s")}},
		{"duty d of r: a 3 times within 4 business days grace 5 days;", api.Item{Kind: api.ItemDuty, Name: "d", Of: "r", Act: "a", Times: 3, Within: api.Span{Days: 4, Business: true}, Grace: api.Span{Days: 5}}},
		{"duty d of r: a 0 times within 4 days grace 0 business days final;", api.Item{Kind: api.ItemDuty, Name: "d", Of: "r", Act: "a", Within: api.Span{Days: 4}, Grace: api.Span{Business: true}, Final: true}},
		{
			"duty d of r: a 9 times within s grace g if x done and y started and z failed and x void paused by b until e value 1/3 EUR to s final;",
			api.Item{
				Kind: api.ItemDuty, Name: "d", Of: "r", Act: "a", Times: 9, Within: named("s"), Grace: named("g"), By: "b", Until: "e", Num: ratio(1, 3), Unit: "EUR", To: "s", Final: true,
				Conds: []api.Named{{Name: "x", Is: api.IsDone}, {Name: "y", Is: api.IsStarted}, {Name: "z", Is: api.IsFailed}, {Name: "x", Is: api.IsVoid}},
			},
		},
		{"ban b of r: a for 3 days;", api.Item{Kind: api.ItemBan, Name: "b", Of: "r", Act: "a", Within: api.Span{Days: 3}}},
		{"ban b of r: a for s value v to t;", api.Item{Kind: api.ItemBan, Name: "b", Of: "r", Act: "a", Within: named("s"), Sum: "v", To: "t"}},
		{
			"ban b of r: a for 1 business days if d failed paused by x until y value 2 EUR to t final;",
			api.Item{
				Kind: api.ItemBan, Name: "b", Of: "r", Act: "a", Within: api.Span{Days: 1, Business: true}, Conds: []api.Named{{Name: "d", Is: api.IsFailed}}, By: "x", Until: "y",
				Num: ratio(2, 1), Unit: "EUR", To: "t", Final: true,
			},
		},
		{"option o of r: a within 3 days;", api.Item{Kind: api.ItemOption, Name: "o", Of: "r", Act: "a", Within: api.Span{Days: 3}}},
		{
			"option o of r: a within 3 business days if d void and e started paused by x until y;",
			api.Item{
				Kind: api.ItemOption, Name: "o", Of: "r", Act: "a", Within: api.Span{Days: 3, Business: true}, Conds: []api.Named{{Name: "d", Is: api.IsVoid}, {Name: "e", Is: api.IsStarted}},
				By: "x", Until: "y",
			},
		},
		{"watch w: a within s;", api.Item{Kind: api.ItemWatch, Name: "w", Act: "a", Within: named("s")}},
		{
			"watch w: a within 400 days if d done paused by x until y;",
			api.Item{Kind: api.ItemWatch, Name: "w", Act: "a", Within: api.Span{Days: 400}, Conds: []api.Named{{Name: "d", Is: api.IsDone}}, By: "x", Until: "y"},
		},
		{"include t as p.q();", api.Item{Kind: api.ItemInclude, Of: "t", Name: "p.q"}},
		{"include t as p(a);", api.Item{Kind: api.ItemInclude, Of: "t", Name: "p", Names: []string{"a"}}},
		{"include t as p(a, b, a);", api.Item{Kind: api.ItemInclude, Of: "t", Name: "p", Names: []string{"a", "b", "a"}}},
	}
}

// templates returns templates with and without parameters and items; the items of the last one stand one blank apart.
func templates() []sample {
	all := api.Item{Kind: api.ItemTemplate, Name: "t", Names: []string{"a", "b", "a"}}
	text := "template t(a, b, a) {"
	for _, inner := range clauses() {
		inner.item.At = start38 + len(text) + 1
		text += " " + inner.text
		all.Items = append(all.Items, inner.item)
	}
	return []sample{
		{"template t() {}", api.Item{Kind: api.ItemTemplate, Name: "t"}},
		{"template t(a) { }", api.Item{Kind: api.ItemTemplate, Name: "t", Names: []string{"a"}}},
		{"template t(){watch w:a within s;}", api.Item{Kind: api.ItemTemplate, Name: "t", Items: []api.Item{{Kind: api.ItemWatch, Name: "w", At: start38 + 13, Act: "a", Within: named("s")}}}},
		{
			"template t(a, b) { include t as u(); include t as v(a); }",
			api.Item{
				Kind: api.ItemTemplate, Name: "t", Names: []string{"a", "b"},
				Items: []api.Item{{Kind: api.ItemInclude, Of: "t", Name: "u", At: start38 + 19}, {Kind: api.ItemInclude, Of: "t", Name: "v", Names: []string{"a"}, At: start38 + 37}},
			},
		},
		{text + " }", all},
	}
}

// start38 is the offset of the first item.
const start38 = len(start)

// samples returns items of all kinds.
func samples() []sample { return slices.Concat(declarations(), clauses(), templates()) }

// blanked returns the texts of the tokens of a text, separated by one blank each.
func blanked(text string) string {
	var all []string
	tokens, _, _ := lexer.Lex(text)
	for _, next := range tokens {
		all = append(all, next.Text)
	}
	return strings.Join(all, " ")
}

// texts returns source texts without items and with one item of each kind, with one blank between two tokens each.
func texts() []string {
	all := []string{blanked(start)}
	for _, one := range samples() {
		all = append(all, blanked(start+one.text))
	}
	return all
}

// P7.1, G1: the chapter's examples.
func TestExamples(t *testing.T) {
	expect(t, "contract c from 2026-1-5 for 30 days;", origin())
	expectFault(t, "contract", api.ErrEnd, 8)
	expect(t, "contract c from 2026-1-5 for 30 days; party party;", origin(api.Item{Kind: api.ItemParty, Name: "party", At: 38}))
	expectFault(t, "contract c for", api.ErrSyntax, 11)
	expect(t, "contract c from 1-1-1 for 9 days; duty d of a: x within 3 business days grace s final;", api.Source{
		Name: "c", From: api.Civil{Year: 1, Month: 1, Day: 1}, Days: 9,
		Items: []api.Item{{Kind: api.ItemDuty, Name: "d", At: 34, Of: "a", Act: "x", Times: 1, Within: api.Span{Days: 3, Business: true}, Grace: api.Span{Name: "s"}, Final: true}},
	})
}

// P7.1, G1: the kinds of items, words and conditions have the numbers of their constants.
func TestConstants(t *testing.T) {
	if !slices.Equal(
		[]int{
			api.ItemParty, api.ItemRole, api.ItemUnit, api.ItemWeekend, api.ItemHoliday, api.ItemSpan, api.ItemSum, api.ItemAct, api.ItemDuty, api.ItemBan, api.ItemOption, api.ItemWatch,
			api.ItemTemplate, api.ItemInclude, api.UnitGoods, api.UnitMoney, api.ActDo, api.ActAssign, api.ActNovate, api.IsStarted, api.IsDone, api.IsFailed, api.IsVoid,
		},
		[]int{1, 2, 3, 4, 5, 6, 7, 8, 9, 10, 11, 12, 13, 14, 1, 2, 1, 2, 3, 1, 2, 3, 4},
	) {
		t.Error("other constants")
	}
}

// P7.1, G1: the beginning of a source text, with its numbers as they are.
func TestBeginning(t *testing.T) {
	for _, test := range []struct {
		text string
		want api.Source
	}{
		{"contract contract from 2026-01-05 for 030 days;", api.Source{Name: "contract", From: api.Civil{Year: 2026, Month: 1, Day: 5}, Days: 30}},
		{"contract from from 0-99-0 for 0 days ; ", api.Source{Name: "from", From: api.Civil{Month: 99}}},
		{"# c\ncontract a.b from 999999999999 - 000000000001 - 12 for 999999999999 days ; # end", api.Source{Name: "a.b", From: api.Civil{Year: 999999999999, Month: 1, Day: 12}, Days: 999999999999}},
		{"contract days from 1-2-3 for 1 days;", api.Source{Name: "days", From: api.Civil{Year: 1, Month: 2, Day: 3}, Days: 1}},
	} {
		expect(t, test.text, test.want)
	}
	for text, at := range map[string]int{
		"Contract c": 0, "contracts c": 0, "party p;": 0, "c from": 0, "; contract": 0, "5": 0, "contract 5": 9, "contract ;": 9, "contract c;": 10, "contract c c": 11, "contract c from x": 16, "contract c from -1": 16,
		"contract c from 1/2": 17, "contract c from 1-x": 18, "contract c from 1-2 3": 20, "contract c from 1-2-": -1, "contract c from 1-2--3": 20, "contract c from 1-2-3-4": 21, "contract c from 1-2-3 to": 22,
		"contract c from 1-2-3 for x": 26, "contract c from 1-2-3 for 4;": 27, "contract c from 1-2-3 for 4 business days;": 28, "contract c from 1-2-3 for 4 day;": 28, "contract c from 1-2-3 for 4 days days": 33,
		"contract c from 1-2-3 for 4 days party p;": 33, "contract c from 1-2-3 for 4 days,": 32, "contract c from 1-2-3 for 4 days;;": 33, "contract c from 1-2-3 for 4 days; contract": 34, "contract c from 1-2-3 for 4 days; 5": 34,
	} {
		if at < 0 {
			expectFault(t, text, api.ErrEnd, len(text))
		} else {
			expectFault(t, text, api.ErrSyntax, at)
			expectFault(t, text+" party ; 5", api.ErrSyntax, at)
		}
	}
}

// P7.1, G1: items of all kinds with and without each of their optional parts.
func TestItems(t *testing.T) {
	for _, one := range samples() {
		one.item.At = start38
		expect(t, start+one.text, origin(one.item))
		expect(t, start+one.text+"\n# end", origin(one.item))
		expect(t, start+one.text+"party p;", origin(one.item, api.Item{Kind: api.ItemParty, Name: "p", At: start38 + len(one.text)}))
		before := "role x of y; "
		item := moved([]api.Item{one.item}, func(at int) int { return at + len(before) })[0]
		expect(t, start+before+one.text, origin(api.Item{Kind: api.ItemRole, Name: "x", Of: "y", At: start38}, item))
	}
}

// P7.1, G1: clauses in templates have the trees that they have outside.
func TestItemsOfTemplates(t *testing.T) {
	for _, one := range clauses() {
		one.item.At = start38 + 15
		expect(t, start+"template t(x){ "+one.text+"}", origin(api.Item{Kind: api.ItemTemplate, Name: "t", At: start38, Names: []string{"x"}, Items: []api.Item{one.item}}))
	}
	for _, one := range slices.Concat(declarations(), templates()) {
		for _, before := range []string{"template t(x){ ", "template t(){include t as u(); "} {
			expectFault(t, start+before+one.text+"}", api.ErrSyntax, start38+len(before))
		}
	}
}

// choices returns clauses of all kinds with all combinations of their parts.
func choices() []api.Item {
	all := []api.Item{
		{Kind: api.ItemDuty, Name: "d", Of: "r", Act: "a", Times: 1}, {Kind: api.ItemDuty, Name: "d", Of: "r", Act: "a", Times: 7},
		{Kind: api.ItemBan, Name: "d", Of: "r", Act: "a"}, {Kind: api.ItemOption, Name: "d", Of: "r", Act: "a"}, {Kind: api.ItemWatch, Name: "d", Act: "a"},
	}
	spans := []api.Span{{Days: 3}, {Days: 5, Business: true}, {Name: "s"}, {Name: "if"}, {Name: "final"}}
	all = vary(all, len(spans), func(item *api.Item, i int) { item.Within = spans[i] })
	all = vary(all, 1+len(spans), func(item *api.Item, i int) {
		if i > 0 && item.Kind == api.ItemDuty {
			item.Grace = spans[i-1]
		}
	})
	all = vary(all, 4, func(item *api.Item, i int) {
		item.Conds = []api.Named{{Name: "x", Is: api.IsVoid}, {Name: "if", Is: api.IsStarted}, {Name: "and", Is: api.IsDone}}[:i]
	})
	all = vary(all, 2, func(item *api.Item, i int) {
		if i == 1 {
			item.By, item.Until = "by", "until"
		}
	})
	costs := func(item *api.Item) bool { return item.Kind == api.ItemDuty || item.Kind == api.ItemBan }
	all = vary(all, 4, func(item *api.Item, i int) {
		if i > 0 && costs(item) {
			values := []api.Item{{Num: ratio(4, 1), Unit: "eur"}, {Num: ratio(4, 6), Unit: "to"}, {Sum: "to"}}[i-1]
			item.Num, item.Unit, item.Sum, item.To = values.Num, values.Unit, values.Sum, "x"
		}
	})
	return vary(all, 2, func(item *api.Item, i int) { item.Final = i == 1 && costs(item) })
}

// vary returns items with each of several changes.
func vary(items []api.Item, changes int, change func(item *api.Item, i int)) []api.Item {
	var all []api.Item
	for _, item := range items {
		for i := range changes {
			changed := item
			change(&changed, i)
			all = append(all, changed)
		}
	}
	return all
}

// P7.1, G1: all combinations of the parts of clauses.
func TestCombinations(t *testing.T) {
	random := rand.New(rand.NewSource(1))
	for i, item := range choices() {
		style := random
		if i%2 == 0 {
			style = nil
		}
		text, tree := write(style, origin(item))
		expect(t, text, tree)
		text, tree = write(style, origin(api.Item{Kind: api.ItemTemplate, Name: "t", Items: []api.Item{item}}))
		expect(t, text, tree)
	}
}

// P7.1, G1: the parts of clauses in another order, twice, or where they are not permitted.
func TestWrongParts(t *testing.T) {
	for text, at := range map[string]int{
		"duty d: a within s;": 6, "duty d of r a within s;": 12, "duty d of r: within s;": 20, "duty d of r: a times within s;": 15, "duty d of r: a 3 within s;": 17, "duty d of r: a 3 times 4 times within s;": 23,
		"duty d of r: a for s;": 15, "duty d of r: a within;": 21, "duty d of r: a within 3;": 23, "duty d of r: a within 3 business;": 32, "duty d of r: a within 3 s;": 24, "duty d of r: a within s days;": 24,
		"duty d of r: a within business days;": 31, "duty d of r: a within 3 days business;": 29, "duty d of r: a within s if x done grace 3 days;": 34, "duty d of r: a within s grace g grace g;": 32,
		"duty d of r: a within s if x;": 28, "duty d of r: a within s if x done y done;": 34, "duty d of r: a within s if x done and;": 37, "duty d of r: a within s if x live;": 29, "duty d of r: a within s if x done if y done;": 34,
		"duty d of r: a within s and x done;": 24, "duty d of r: a within s paused until y by x;": 31, "duty d of r: a within s paused by x;": 35, "duty d of r: a within s paused by x until y if x done;": 44,
		"duty d of r: a within s value 3 to x final;": 35, "duty d of r: a within s value 3/ eur to x;": 33, "duty d of r: a within s value /3 eur to x;": 30, "duty d of r: a within s value v;": 31, "duty d of r: a within s value v eur to x;": 32,
		"duty d of r: a within s value 3/4/5 eur to x;": 33, "duty d of r: a within s final value v to x;": 30, "duty d of r: a within s final final;": 30, "duty d of r: a within s value v to x value v to x;": 37,
		"duty d of r: a within s value -3 eur to x;": 30, "duty d of r: a within s value v to x paused by x until y;": 37, "duty d of r: a within -3 days;": 22, "duty d of r: a within s grace;": 29,
		"ban b of r: a within s;": 14, "ban b of r: a 2 times for s;": 14, "ban b of r: a for s grace s;": 20, "ban b of r: a for s if x done final value v to x;": 36, "ban b of r: a for s within s;": 20,
		"option o of r: a for s;": 17, "option o of r: a 1 times within s;": 17, "option o of r: a within s grace s;": 26, "option o of r: a within s final;": 26, "option o of r: a within s value v to x;": 26,
		"watch w of r: a within s;": 8, "watch w: a for s;": 11, "watch w: a 1 times within s;": 11, "watch w: a within s grace s;": 20, "watch w: a within s final;": 20, "watch w: a within s value v to x;": 20,
		"watch w: a within s paused by x until y final;": 40, "watch w: a, b within s;": 10,
	} {
		expectFault(t, start+text, api.ErrSyntax, start38+at)
		expectFault(t, start+"template t() { include t as u(); "+text+"}", api.ErrSyntax, start38+33+at)
	}
}

// P7.1, G1: other items with wrong, missing and further parts.
func TestWrongItems(t *testing.T) {
	for text, at := range map[string]int{
		"party;": 5, "party a, b;": 7, "party a b;": 8, "party 5;": 6, "party a of b;": 8, "Party a;": 0, "parties a;": 0, "role r;": 6, "role r of;": 9, "role r: p;": 6, "role r of p of q;": 12, "role of p;": 8,
		"unit u;": 6, "unit u wood;": 7, "unit u goods money;": 13, "unit u goods = t;": 15, "unit u goods = 1;": 16, "unit u goods = 1/t;": 17, "unit u goods 1 t;": 13, "unit u = 1 t;": 7, "unit goods;": 10, "unit u goods = 1 t u;": 19,
		"weekend;": 7, "weekend mon tue;": 12, "weekend mon,;": 12, "weekend ,mon;": 8, "weekend monday;": 8, "weekend Mon;": 8, "weekend x;": 8, "weekend 1;": 8, "weekend mon, x;": 13, "weekend mon, 2026-1-1;": 13,
		"holiday;": 7, "holiday x;": 8, "holiday 2026;": 12, "holiday 2026-1;": 14, "holiday 2026-1-1 2026-1-2;": 17, "holiday 2026-1-1,;": 17, "holiday 2026/1/1;": 12, "holiday sat;": 8, "holiday 1-2-3-4;": 13,
		"span s;": 6, "span s 3 days;": 7, "span s = t;": 9, "span s = 3;": 10, "span s = 3 business;": 19, "span s = business days;": 9, "span s = 3/2 days;": 10, "span s = 3 days business;": 16, "span s = 3 days 3 days;": 16,
		"sum s;": 5, "sum s = eur;": 8, "sum s = 3;": 9, "sum s = 3 4 eur;": 10, "sum s = 3/eur;": 10, "sum s = 3/4/5 eur;": 11, "sum s = t;": 8, "sum s = 3 eur to x;": 14,
		"act a;": 5, "act a of r;": 6, "act a by;": 8, "act a by r s;": 11, "act a by r moves;": 16, "act a by r moves eur;": 17, "act a by r moves 1;": 18, "act a by r moves 1 eur 2 eur;": 23, "act a by r to;": 13,
		"act a by r to s moves 1 eur;": 16, "act a by r to s to t;": 16, "act a by r assigns s;": 20, "act a by r assigns to s;": 22, "act a by r assigns s to;": 23, "act a by r assigns s novates t to p;": 21,
		"act a by r novates;": 18, "act a by r novates s to p moves 1 eur;": 26, "act a by r moves 1 eur assigns s to p;": 23, "act a by r to s assigns s to p;": 16, "act a by r novates s to p to q;": 26, "act a moves 1 eur by r;": 6,
		"template t {}": 11, "template (a) {}": 9, "template t(a {}": 13, "template t(a b) {}": 13, "template t(a,) {}": 13, "template t(,) {}": 11, "template t(1) {}": 11, "template t(a);": 13, "template t() }": 13, "template t() {;}": 14,
		"template t() {}}": 15, "template t() {};": 15, "template t() { x }": 15, "template t(a)(b) {}": 13, "template t() { include u as v() }": 32, "template t() { { } }": 15,
		"include t;": 9, "include t as u;": 14, "include t as u(;": 15, "include t as u(a;": 16, "include t as u(a,);": 17, "include t as u(a b);": 17, "include t as u(3);": 15, "include t(a) as u;": 9, "include t as (a);": 13,
		"include t as u() final;": 17, "include t as u()": -1, "x": 0, "x;": 0, ";": 0, "{": 0, "}": 0, "5": 0, "days": 0, "contract c from 1-1-1 for 1 days;": 0, "if": 0, "goods": 0, "nature": 0, "span-def": 4, "inner": 0, "item": 0,
	} {
		if at < 0 {
			expectFault(t, start+text, api.ErrEnd, len(start+text))
		} else {
			expectFault(t, start+text, api.ErrSyntax, start38+at)
			expectFault(t, start+"party p; role r of p; "+text, api.ErrSyntax, start38+22+at)
		}
	}
}

// P7.1, P7.5, G1: key words and other names as each name of each item.
func TestNames(t *testing.T) {
	names := append(nameWords(), "NAME", "INT", "a", "Z", "a.b", "a._.1", "x_", "abcdefghijklmnopqrstuvwx", "source", "span.def", "Nature", "nature")
	for _, one := range samples() {
		for _, name := range names {
			item := renamed(one.item, name)
			text, tree := write(nil, origin(item))
			expect(t, text, tree)
		}
	}
}

// renamed returns an item with one name in the place of all its names.
func renamed(item api.Item, name string) api.Item {
	for _, field := range []*string{&item.Name, &item.Act, &item.By, &item.Until, &item.Unit, &item.Sum, &item.Give, &item.To, &item.Within.Name, &item.Grace.Name, &item.Of} {
		if *field != "" {
			*field = name
		}
	}
	if item.Kind == api.ItemAct && item.Of == "nature" {
		item.Of = ""
	}
	item.Conds, item.Names, item.Items = slices.Clone(item.Conds), slices.Clone(item.Names), slices.Clone(item.Items)
	for i := range item.Conds {
		item.Conds[i].Name = name
	}
	for i := range item.Names {
		item.Names[i] = name
	}
	for i := range item.Items {
		item.Items[i] = renamed(item.Items[i], name)
	}
	return item
}

// P7.1, G1: numbers as they are written, and ratios with one and two of them.
func TestNumbers(t *testing.T) {
	for text, n := range map[string]int{"0": 0, "1": 1, "000000000001": 1, "00": 0, "010": 10, "401": 401, "2147483648": 2147483648, "999999999999": 999999999999, "1000001": 1000001} {
		for _, test := range []sample{
			{"duty d of r: a " + text + " times within s;", api.Item{Kind: api.ItemDuty, Name: "d", Of: "r", Act: "a", Times: n, Within: named("s")}},
			{"watch w: a within " + text + " days;", api.Item{Kind: api.ItemWatch, Name: "w", Act: "a", Within: api.Span{Days: n}}},
			{"span s = " + text + " business days;", api.Item{Kind: api.ItemSpan, Name: "s", Within: api.Span{Days: n, Business: true}}},
			{"holiday " + text + "-" + text + "-" + text + ";", api.Item{Kind: api.ItemHoliday, Dates: []api.Civil{{Year: n, Month: n, Day: n}}}},
			{"sum s = " + text + " u;", api.Item{Kind: api.ItemSum, Name: "s", Num: ratio(n, 1), Unit: "u"}},
			{"sum s = " + text + "/7 u;", api.Item{Kind: api.ItemSum, Name: "s", Num: ratio(n, 7), Unit: "u"}},
			{"unit v goods = 7/" + text + " u;", api.Item{Kind: api.ItemUnit, Name: "v", Word: api.UnitGoods, Num: ratio(7, n), Unit: "u"}},
			{"act a by r moves " + text + "/" + text + " u;", api.Item{Kind: api.ItemAct, Name: "a", Word: api.ActDo, Of: "r", Num: ratio(n, n), Unit: "u"}},
			{"ban b of r: a for s value " + text + " u to x;", api.Item{Kind: api.ItemBan, Name: "b", Of: "r", Act: "a", Within: named("s"), Num: ratio(n, 1), Unit: "u", To: "x"}},
		} {
			test.item.At = start38
			expect(t, start+test.text, origin(test.item))
		}
		expect(t, "contract c from "+text+"-"+text+"-"+text+" for "+text+" days;", api.Source{Name: "c", From: api.Civil{Year: n, Month: n, Day: n}, Days: n})
	}
	expectFault(t, start+"sum s = 1000000000000 u;", api.ErrNumber, start38+8)
}

// P7.1, G1: the errors of layer 6 with their offsets, also behind errors of this layer.
func TestErrorsOfLexer(t *testing.T) {
	for _, test := range []struct {
		text string
		err  api.Errno
		at   int
	}{
		{"!", api.ErrChar, 0}, {"\xff", api.ErrChar, 0}, {"contract c.", api.ErrChar, 10}, {"5 \r", api.ErrChar, 2}, {"; 7x", api.ErrNumber, 2}, {"contract 1234567890123", api.ErrNumber, 9},
		{strings.Repeat("y", 25), api.ErrLimit, 0}, {"party " + strings.Repeat("y", 25), api.ErrLimit, 6}, {strings.Repeat(";", 5001), api.ErrLimit, 5000}, {strings.Repeat(" ", 20001), api.ErrLimit, -1},
		{start + "x; $", api.ErrChar, start38 + 3}, {start + "party ; 1x", api.ErrNumber, start38 + 8}, {start + "party p # $\n; .", api.ErrChar, start38 + 14}, {start + "party " + strings.Repeat("z", 25) + " $", api.ErrLimit, start38 + 6},
		{start + strings.Repeat("party a;", 601) + "$", api.ErrChar, start38 + 601*8}, {start + strings.Repeat("party a;", 1700), api.ErrLimit, start38 + 8*1662 + 7}, {start + strings.Repeat(" ", 20000), api.ErrLimit, -1},
	} {
		expectFault(t, test.text, test.err, test.at)
	}
	for _, text := range texts() {
		tokens := strings.Fields(text)
		for i := range tokens {
			before := strings.Join(tokens[:i], " ")
			expectFault(t, before+" 7x "+strings.Join(tokens[i:], " "), api.ErrNumber, len(before)+1)
			expectFault(t, before+" : : ! "+strings.Join(tokens[i:], " "), api.ErrChar, len(before)+5)
		}
	}
}

// P7.1, G1: texts that end too early at each of their tokens, also before gaps and comments.
func TestTooEarly(t *testing.T) {
	gaps := []string{"", " ", "\n", "\t\n ", "# end", " # party p;\n", "#\n#", "\n# 7x ! \xff"}
	first := strings.Fields(blanked(start))
	for i := range first {
		before := strings.Join(first[:i], " ")
		for _, gap := range gaps {
			expectFault(t, before+gap, api.ErrEnd, len(before+gap))
		}
	}
	for _, one := range samples() {
		tokens := strings.Fields(blanked(one.text))
		for i := range tokens {
			before := start + strings.Join(tokens[:i], " ")
			for _, gap := range gaps {
				if i == 0 {
					expect(t, before+gap, origin())
				} else {
					expectFault(t, before+gap, api.ErrEnd, len(before+gap))
					expectFault(t, start+"party p;"+strings.TrimPrefix(before, start)+gap, api.ErrEnd, len(before+gap)+8)
				}
			}
		}
	}
	expectFault(t, "", api.ErrEnd, 0)
	expectFault(t, "# contract", api.ErrEnd, 10)
	expectFault(t, strings.Repeat("\n", 20000), api.ErrEnd, 20000)
	expectFault(t, start+"template t() { include t as u();", api.ErrEnd, start38+32)
	expectFault(t, start+"template t() { include t as u(); # }", api.ErrEnd, start38+36)
}

// P7.1, G1: of several errors of this layer the first one counts, and the end comes last.
func TestFirstOfErrors(t *testing.T) {
	expectFault(t, start+"party ; role ;", api.ErrSyntax, start38+6)
	expectFault(t, start+"party p; role ; party ;", api.ErrSyntax, start38+14)
	expectFault(t, start+"weekend x, y", api.ErrSyntax, start38+8)
	expectFault(t, start+"template t(1) { party p;", api.ErrSyntax, start38+11)
	expectFault(t, start+"template t() { party p;", api.ErrSyntax, start38+15)
	expectFault(t, start+"duty d of 5: 6 7 within", api.ErrSyntax, start38+10)
	for _, one := range samples() {
		for _, other := range samples() {
			expectFault(t, start+"party p; 5 "+one.text+" "+other.text+" }", api.ErrSyntax, start38+9)
			expectFault(t, start+one.text+" 7 "+other.text+" }", api.ErrSyntax, start38+len(one.text)+1)
			expectFault(t, start+one.text+"template t() {"+other.text+"party p; }", api.ErrSyntax, wrong(one, other))
		}
	}
}

// wrong returns the offset of the first item that cannot be in a template, behind another item.
func wrong(one, inner sample) int {
	at := start38 + len(one.text) + len("template t() {")
	if inner.item.Kind < api.ItemDuty || inner.item.Kind == api.ItemTemplate {
		return at
	}
	return at + len(inner.text)
}

// P1, P3, P7.1: a result does not change if an earlier one is changed by its owner, and equal texts have equal trees.
func TestAgain(t *testing.T) {
	text := start + templates()[4].text + " holiday 1-2-3, 4-5-6;"
	want, _, _ := parser.Parse(text)
	got, _, _ := parser.Parse(strings.Clone(text))
	if !same(got, want) || len(want.Items) != 2 || len(want.Items[0].Items) != len(clauses()) {
		t.Error(got, want)
	}
	for i := range got.Items[0].Items {
		inner := &got.Items[0].Items[i]
		for k := range inner.Conds {
			inner.Conds[k] = api.Named{}
		}
		for k := range inner.Names {
			inner.Names[k] = ""
		}
		*inner = api.Item{}
	}
	got.Items[0].Names[0], got.Items[1].Dates[0] = "", api.Civil{}
	expect(t, text, want)
	got = want
	expectFault(t, text+"}", api.ErrSyntax, len(text))
	expect(t, text, got)
}

// P1: no two slices of a tree share memory, so that one can grow without a change of another one.
func TestSeparateSlices(t *testing.T) {
	text := start + "template t(a, b) { include t as u(a, b); duty d of r: a within s if x done and y done and z done; include t as v(a, b, c); } holiday 1-2-3, 4-5-6, 7-8-9; include t as u(b); party p;"
	want, _, _ := parser.Parse(text)
	got, _, _ := parser.Parse(text)
	inner := got.Items[0].Items
	_ = append(inner, api.Item{Name: "more"})
	_ = append(got.Items[0].Names, "more")
	_ = append(got.Items[2].Names, "more", "more")
	_ = append(got.Items[1].Dates, api.Civil{Year: 9})
	_ = append(inner[0].Names, "more")
	_ = append(inner[1].Conds, api.Named{Name: "more"})
	_ = append(inner[2].Names, "more")
	_ = append(got.Items, api.Item{Name: "more"})
	if !same(got, want) {
		t.Error(got)
	}
}
