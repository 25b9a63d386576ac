package parser_test

import (
	"fmt"
	"math/rand"
	"reflect"
	"slices"
	"strconv"
	"strings"
	"testing"

	"estoppel/api"
	"estoppel/parser"
)

// start is the beginning of a source text, whose items begin at 38.
const start = "contract c from 2026-1-5 for 30 days; "

// origin is the tree of start with some items.
func origin(items ...api.Item) api.Source {
	return api.Source{Name: "c", From: api.Civil{Year: 2026, Month: 1, Day: 5}, Days: 30, Items: items}
}

// normal returns items without empty slices that are not nil.
func normal(items []api.Item) []api.Item {
	var all []api.Item
	for _, item := range items {
		item.Conds = append([]api.Named(nil), item.Conds...)
		item.Dates = append([]api.Civil(nil), item.Dates...)
		item.Names = append([]string(nil), item.Names...)
		item.Items = normal(item.Items)
		all = append(all, item)
	}
	return all
}

// same reports whether two trees are equal.
func same(a, b api.Source) bool {
	a.Items, b.Items = normal(a.Items), normal(b.Items)
	return reflect.DeepEqual(a, b)
}

// isZero reports whether a tree is zero.
func isZero(tree api.Source) bool { return same(tree, api.Source{}) }

// moved returns items without offsets, or with offsets that are changed by a function.
func moved(items []api.Item, change func(at int) int) []api.Item {
	items = slices.Clone(items)
	for i := range items {
		items[i].At = change(items[i].At)
		items[i].Items = moved(items[i].Items, change)
	}
	return items
}

// unplaced returns a tree without offsets.
func unplaced(tree api.Source) api.Source {
	tree.Items = moved(tree.Items, func(int) int { return 0 })
	return tree
}

// count returns the number of items, also of those within templates.
func count(items []api.Item) int {
	all := len(items)
	for _, item := range items {
		all += count(item.Items)
	}
	return all
}

// short returns the beginning of what a tree has, for messages.
func short(tree api.Source) string { return fmt.Sprintf("%.600s", fmt.Sprint(tree)) }

// expect compares the tree of a text with another one.
func expect(t *testing.T, text string, want api.Source) {
	t.Helper()
	if got, err, at := parser.Parse(text); err != api.OK || at != 0 || !same(got, want) {
		t.Errorf("%.300q: %d at %d and %s instead of %s", text, err, at, short(got), short(want))
	}
}

// expectFault compares the error of a text with another one.
func expectFault(t *testing.T, text string, err api.Errno, at int) {
	t.Helper()
	if tree, got, place := parser.Parse(text); got != err || place != at || !isZero(tree) {
		t.Errorf("%.300q of %d bytes: %d at %d and %s instead of %d at %d", text, len(text), got, place, short(tree), err, at)
	}
}

// writer writes trees as tokens, and puts the number of its first token into each item. Where there are several ways to write something it takes any of them, or the shortest one if random is nil.
type writer struct {
	random *rand.Rand
	tokens []string
}

// any reports whether another way than the shortest one is taken.
func (w *writer) any() bool { return w.random != nil && w.random.Intn(2) == 0 }

// add writes tokens.
func (w *writer) add(tokens ...string) { w.tokens = append(w.tokens, tokens...) }

// number writes a number, which can have leading zeros.
func (w *writer) number(n int) {
	text := strconv.Itoa(n)
	if w.any() {
		text = strings.Repeat("0", w.random.Intn(13-len(text))) + text
	}
	w.add(text)
}

// list writes parts with a separator between them.
func (w *writer) list(length int, separator string, part func(i int)) {
	for i := range length {
		if i > 0 {
			w.add(separator)
		}
		part(i)
	}
}

func (w *writer) date(d api.Civil) {
	w.number(d.Year)
	w.add("-")
	w.number(d.Month)
	w.add("-")
	w.number(d.Day)
}

func (w *writer) amount(num api.Ratio, unit string) {
	w.number(num.Num)
	if num.Den != 1 || w.any() {
		w.add("/")
		w.number(num.Den)
	}
	w.add(unit)
}

func (w *writer) span(s api.Span) {
	if s.Name != "" {
		w.add(s.Name)
		return
	}
	w.number(s.Days)
	if s.Business {
		w.add("business")
	}
	w.add("days")
}

func (w *writer) names(names []string) {
	w.add("(")
	w.list(len(names), ",", func(i int) { w.add(names[i]) })
	w.add(")")
}

func (w *writer) source(tree *api.Source) {
	w.add("contract", tree.Name, "from")
	w.date(tree.From)
	w.add("for")
	w.number(tree.Days)
	w.add("days", ";")
	w.items(tree.Items)
}

func (w *writer) items(items []api.Item) {
	for i := range items {
		items[i].At = len(w.tokens)
		w.item(&items[i])
	}
}

// item writes an item.
func (w *writer) item(item *api.Item) {
	switch item.Kind {
	case api.ItemParty:
		w.add("party", item.Name)
	case api.ItemRole:
		w.add("role", item.Name, "of", item.Of)
	case api.ItemUnit:
		w.add("unit", item.Name, map[int]string{api.UnitGoods: "goods", api.UnitMoney: "money"}[item.Word])
		if item.Unit != "" {
			w.add("=")
			w.amount(item.Num, item.Unit)
		}
	case api.ItemWeekend:
		w.weekend(item)
	case api.ItemHoliday:
		w.add("holiday")
		w.list(len(item.Dates), ",", func(i int) { w.date(item.Dates[i]) })
	case api.ItemSpan:
		w.add("span", item.Name, "=")
		w.span(item.Within)
	case api.ItemSum:
		w.add("sum", item.Name, "=")
		w.amount(item.Num, item.Unit)
	case api.ItemAct:
		w.act(item)
	case api.ItemTemplate:
		w.add("template", item.Name)
		w.names(item.Names)
		w.add("{")
		w.items(item.Items)
		w.add("}")
		return
	case api.ItemInclude:
		w.add("include", item.Of, "as", item.Name)
		w.names(item.Names)
	default:
		w.clause(item)
	}
	w.add(";")
}

// weekend writes the days of a weekend, some of them several times.
func (w *writer) weekend(item *api.Item) {
	names := strings.Fields("mon tue wed thu fri sat sun")
	var days []string
	for i, free := range item.Days {
		if free {
			days = append(days, names[i])
		}
	}
	for w.any() {
		days = append(days, days[w.random.Intn(len(days))])
		w.random.Shuffle(len(days), func(i, j int) { days[i], days[j] = days[j], days[i] })
	}
	w.add("weekend")
	w.list(len(days), ",", func(i int) { w.add(days[i]) })
}

func (w *writer) act(item *api.Item) {
	w.add("act", item.Name, "by")
	if item.Of == "" {
		w.add("nature")
	} else {
		w.add(item.Of)
	}
	switch item.Word {
	case api.ActAssign:
		w.add("assigns", item.Give)
	case api.ActNovate:
		w.add("novates", item.Give)
	default:
		if item.Unit != "" {
			w.add("moves")
			w.amount(item.Num, item.Unit)
		}
	}
	if item.To != "" {
		w.add("to", item.To)
	}
}

// clause writes a duty, a ban, an option or a watch.
func (w *writer) clause(item *api.Item) {
	w.add(map[int]string{api.ItemDuty: "duty", api.ItemBan: "ban", api.ItemOption: "option", api.ItemWatch: "watch"}[item.Kind], item.Name)
	if item.Kind != api.ItemWatch {
		w.add("of", item.Of)
	}
	w.add(":", item.Act)
	if item.Kind == api.ItemDuty && (item.Times != 1 || w.any()) {
		w.number(item.Times)
		w.add("times")
	}
	w.add(map[bool]string{true: "for", false: "within"}[item.Kind == api.ItemBan])
	w.span(item.Within)
	if item.Kind == api.ItemDuty && (item.Grace != api.Span{} || w.any()) {
		w.add("grace")
		w.span(item.Grace)
	}
	w.conditions(item)
	switch {
	case item.Sum != "":
		w.add("value", item.Sum, "to", item.To)
	case item.Unit != "":
		w.add("value")
		w.amount(item.Num, item.Unit)
		w.add("to", item.To)
	}
	if item.Final {
		w.add("final")
	}
}

func (w *writer) conditions(item *api.Item) {
	if len(item.Conds) > 0 {
		w.add("if")
	}
	w.list(len(item.Conds), "and", func(i int) {
		w.add(item.Conds[i].Name, map[int]string{api.IsStarted: "started", api.IsDone: "done", api.IsFailed: "failed", api.IsVoid: "void"}[item.Conds[i].Is])
	})
	if item.By != "" {
		w.add("paused", "by", item.By, "until", item.Until)
	}
}

// lay returns tokens as a text with gaps, one blank each if random is nil, and their offsets.
func lay(random *rand.Rand, tokens []string) (string, []int) {
	var text strings.Builder
	var offsets []int
	before := ";"
	for _, next := range tokens {
		joined := random != nil && random.Intn(3) == 0 && (strings.Contains(symbols, before) || strings.Contains(symbols, next))
		if text.Len() > 0 && !joined {
			text.WriteString(someGap(random))
		}
		offsets = append(offsets, text.Len())
		text.WriteString(next)
		before = next
	}
	if random != nil && random.Intn(2) == 0 {
		text.WriteString(someGap(random))
	}
	return text.String(), offsets
}

// symbols are the symbols of layer 6.
const symbols = ";:,=/-(){}"

// write returns a text of a tree, and the tree with its offsets.
func write(random *rand.Rand, tree api.Source) (string, api.Source) {
	w := &writer{random: random}
	tree.Items = moved(tree.Items, func(at int) int { return at })
	w.source(&tree)
	text, offsets := lay(random, w.tokens)
	tree.Items = moved(tree.Items, func(at int) int { return offsets[at] })
	return text, tree
}

// pick returns one of several values.
func pick[T any](random *rand.Rand, all ...T) T { return all[random.Intn(len(all))] }

// someGap returns a gap, which is a blank if random is nil.
func someGap(random *rand.Rand) string {
	if random == nil {
		return " "
	}
	return pick(random, " ", " ", " ", "\n", "\t", "  ", " # party x;\n", "#\n", "# 7x !\n\t", "\n\n")
}

// someName returns a name, which is a key word half of the time.
func someName(random *rand.Rand) string {
	if random.Intn(2) == 0 {
		return pick(random, nameWords()...)
	}
	return pick(random, "x", "y", "buyer", "Pay", "eur", "a.b", "a.1", "x_9", "Z", "nature", "Days", "abcdefghijklmnopqrstuvwx", "duty.of", "z._")
}

// nameWords returns the key words that are names, which are all but the symbols.
func nameWords() []string {
	return slices.DeleteFunc(keyWords(), func(word string) bool { return strings.Contains(symbols, word) })
}

// someCount returns a number.
func someCount(random *rand.Rand) int {
	return pick(random, 0, 1, 1, 2, 3, 5, 30, 400, 2026, 999999999999, random.Intn(1000000000000))
}

// someNumber returns a number as it can be written.
func someNumber(random *rand.Rand) string {
	return pick(random, "0", "1", "5", "007", "30", "000000000000", "999999999999")
}

func someSpan(random *rand.Rand) api.Span {
	if random.Intn(3) == 0 {
		return api.Span{Name: someName(random)}
	}
	return api.Span{Days: someCount(random), Business: random.Intn(2) == 0}
}

func someDate(random *rand.Rand) api.Civil {
	return api.Civil{Year: someCount(random), Month: someCount(random), Day: someCount(random)}
}

func someRatio(random *rand.Rand) api.Ratio {
	return api.Ratio{Num: someCount(random), Den: someCount(random)}
}

// someNames returns up to 4 names.
func someNames(random *rand.Rand) []string {
	var names []string
	for range random.Intn(5) {
		names = append(names, someName(random))
	}
	return names
}

// someTree returns a tree with a number of items at most, also within templates.
func someTree(random *rand.Rand, most int) api.Source {
	tree := api.Source{Name: someName(random), From: someDate(random), Days: someCount(random)}
	for most > 0 && random.Intn(20) > 0 {
		item := someItem(random, 1+random.Intn(14), most-1)
		tree.Items = append(tree.Items, item)
		most -= count([]api.Item{item})
	}
	return tree
}

// someItem returns an item of a kind, with a number of items at most within it.
func someItem(random *rand.Rand, kind, most int) api.Item {
	item := api.Item{Kind: kind, Name: someName(random)}
	switch kind {
	case api.ItemRole:
		item.Of = someName(random)
	case api.ItemUnit:
		item.Word = pick(random, api.UnitGoods, api.UnitMoney)
		if random.Intn(2) == 0 {
			item.Num, item.Unit = someRatio(random), someName(random)
		}
	case api.ItemWeekend:
		item.Name = ""
		item.Days[random.Intn(7)] = true
		for i := range 7 {
			item.Days[i] = item.Days[i] || random.Intn(3) == 0
		}
	case api.ItemHoliday:
		item.Name = ""
		for range 1 + random.Intn(4) {
			item.Dates = append(item.Dates, someDate(random))
		}
	case api.ItemSpan:
		item.Within = api.Span{Days: someCount(random), Business: random.Intn(2) == 0}
	case api.ItemSum:
		item.Num, item.Unit = someRatio(random), someName(random)
	case api.ItemAct:
		someAct(random, &item)
	case api.ItemTemplate:
		item.Names = someNames(random)
		for range random.Intn(min(6, most+1)) {
			item.Items = append(item.Items, someItem(random, pick(random, api.ItemDuty, api.ItemBan, api.ItemOption, api.ItemWatch, api.ItemInclude), 0))
		}
	case api.ItemInclude:
		item.Of, item.Names = someName(random), someNames(random)
	case api.ItemDuty, api.ItemBan, api.ItemOption, api.ItemWatch:
		someClause(random, &item)
	}
	return item
}

// someAct sets the fields of an act.
func someAct(random *rand.Rand, item *api.Item) {
	item.Word = pick(random, api.ActDo, api.ActDo, api.ActAssign, api.ActNovate)
	if item.Of = someName(random); item.Of == "nature" {
		item.Of = ""
	}
	if item.Word != api.ActDo {
		item.Give, item.To = someName(random), someName(random)
		return
	}
	if random.Intn(2) == 0 {
		item.Num, item.Unit = someRatio(random), someName(random)
	}
	if random.Intn(2) == 0 {
		item.To = someName(random)
	}
}

// someClause sets the fields of a duty, a ban, an option or a watch.
func someClause(random *rand.Rand, item *api.Item) {
	item.Act, item.Within = someName(random), someSpan(random)
	if item.Kind != api.ItemWatch {
		item.Of = someName(random)
	}
	if item.Kind == api.ItemDuty {
		item.Times = someCount(random)
		if random.Intn(2) == 0 {
			item.Grace = someSpan(random)
		}
	}
	for range random.Intn(4) {
		item.Conds = append(item.Conds, api.Named{Name: someName(random), Is: 1 + random.Intn(4)})
	}
	if random.Intn(2) == 0 {
		item.By, item.Until = someName(random), someName(random)
	}
	if item.Kind == api.ItemOption || item.Kind == api.ItemWatch {
		return
	}
	item.Final = random.Intn(2) == 0
	switch random.Intn(3) {
	case 0:
		item.Sum, item.To = someName(random), someName(random)
	case 1:
		item.Num, item.Unit, item.To = someRatio(random), someName(random), someName(random)
	}
}

// someTrees calls a function with many trees and their texts, which keep the limits of layer 6.
func someTrees(seed int64, number int, use func(random *rand.Rand, text string, tree api.Source)) {
	random := rand.New(rand.NewSource(seed))
	for i := range number {
		most := random.Intn(12)
		if i%50 == 0 {
			most = random.Intn(250)
		}
		text, tree := write(random, someTree(random, most))
		if len(text) <= api.MaxSource {
			use(random, text, tree)
		}
	}
}
