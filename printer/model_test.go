package printer_test

import (
	"fmt"
	"math/rand"
	"reflect"
	"regexp"
	"slices"
	"strconv"
	"strings"
	"testing"

	"estoppel/api"
	"estoppel/parser"
	"estoppel/printer"
)

// start is the first line of the text of an origin.
const start = "contract c from 2026-1-5 for 30 days;\n"

// origin is a tree with some items.
func origin(items ...api.Item) api.Source {
	return api.Source{Name: "c", From: api.Civil{Year: 2026, Month: 1, Day: 5}, Days: 30, Items: items}
}

// copied returns items that share no memory with others, without offsets and without empty slices that are not nil.
func copied(items []api.Item) []api.Item {
	var all []api.Item
	for _, item := range items {
		item.At = 0
		item.Conds = append([]api.Named(nil), item.Conds...)
		item.Dates = append([]api.Civil(nil), item.Dates...)
		item.Names = append([]string(nil), item.Names...)
		item.Items = copied(item.Items)
		all = append(all, item)
	}
	return all
}

// clone returns a tree that shares no memory with another one, without offsets.
func clone(tree api.Source) api.Source {
	tree.Items = copied(tree.Items)
	return tree
}

// same reports whether two trees are equal apart from offsets.
func same(a, b api.Source) bool { return reflect.DeepEqual(clone(a), clone(b)) }

// count returns the number of items, also of those within templates.
func count(items []api.Item) int {
	all := len(items)
	for _, item := range items {
		all += count(item.Items)
	}
	return all
}

// expect compares the text of a tree with another one.
func expect(t *testing.T, tree api.Source, want string) {
	t.Helper()
	if got, err := printer.Print(tree); got != want || err != api.OK {
		t.Errorf("%.600q (%d) instead of %.600q", got, err, want)
	}
}

// expectFault compares the error of a tree with another one.
func expectFault(t *testing.T, tree api.Source, want api.Errno) {
	t.Helper()
	if got, err := printer.Print(tree); got != "" || err != want {
		t.Errorf("%.600q and %d instead of %d for %.600s", got, err, want, fmt.Sprint(tree))
	}
}

// writer writes trees as tokens of the grammar. Where there are several ways to write something it takes any of them, or the canonical one if random is nil. Trees that are not printable become tokens, too, but not of their own.
type writer struct {
	random *rand.Rand
	tokens []string
}

// any reports whether another way than the canonical one is taken.
func (w *writer) any() bool { return w.random != nil && w.random.Intn(2) == 0 }

// add writes tokens.
func (w *writer) add(tokens ...string) { w.tokens = append(w.tokens, tokens...) }

// number writes a number, which can have leading zeros.
func (w *writer) number(n int) {
	text := strconv.Itoa(n)
	if w.any() {
		text = strings.Repeat("0", w.random.Intn(13-len(text))) + text
	}
	w.add(text)
}

// list writes parts with a separator between them.
func (w *writer) list(length int, separator string, part func(i int)) {
	for i := range length {
		if i > 0 {
			w.add(separator)
		}
		part(i)
	}
}

func (w *writer) date(d api.Civil) {
	w.number(d.Year)
	w.add("-")
	w.number(d.Month)
	w.add("-")
	w.number(d.Day)
}

func (w *writer) amount(num api.Ratio, unit string) {
	w.number(num.Num)
	if num.Den != 1 || w.any() {
		w.add("/")
		w.number(num.Den)
	}
	w.add(unit)
}

func (w *writer) span(s api.Span) {
	if s.Name != "" {
		w.add(s.Name)
		return
	}
	w.number(s.Days)
	if s.Business {
		w.add("business")
	}
	w.add("days")
}

func (w *writer) names(names []string) {
	w.add("(")
	w.list(len(names), ",", func(i int) { w.add(names[i]) })
	w.add(")")
}

func (w *writer) source(tree api.Source) {
	w.add("contract", tree.Name, "from")
	w.date(tree.From)
	w.add("for")
	w.number(tree.Days)
	w.add("days", ";")
	for _, item := range tree.Items {
		w.item(item)
	}
}

// item writes an item.
func (w *writer) item(item api.Item) {
	switch item.Kind {
	case api.ItemParty:
		w.add("party", item.Name)
	case api.ItemRole:
		w.add("role", item.Name, "of", item.Of)
	case api.ItemUnit:
		w.add("unit", item.Name, map[int]string{api.UnitGoods: "goods", api.UnitMoney: "money"}[item.Word])
		if item.Unit != "" {
			w.add("=")
			w.amount(item.Num, item.Unit)
		}
	case api.ItemWeekend:
		w.weekend(item)
	case api.ItemHoliday:
		w.add("holiday")
		w.list(len(item.Dates), ",", func(i int) { w.date(item.Dates[i]) })
	case api.ItemSpan:
		w.add("span", item.Name, "=")
		w.span(item.Within)
	case api.ItemSum:
		w.add("sum", item.Name, "=")
		w.amount(item.Num, item.Unit)
	case api.ItemAct:
		w.act(item)
	case api.ItemTemplate:
		w.add("template", item.Name)
		w.names(item.Names)
		w.add("{")
		for _, inner := range item.Items {
			w.item(inner)
		}
		w.add("}")
		return
	case api.ItemInclude:
		w.add("include", item.Of, "as", item.Name)
		w.names(item.Names)
	default:
		w.clause(item)
	}
	w.add(";")
}

// weekend writes the days of a weekend, in the canonical way in the order of the week and once each.
func (w *writer) weekend(item api.Item) {
	names := strings.Fields("mon tue wed thu fri sat sun")
	var days []string
	for i, free := range item.Days {
		if free {
			days = append(days, names[i])
		}
	}
	for len(days) > 0 && w.any() {
		days = append(days, days[w.random.Intn(len(days))])
		w.random.Shuffle(len(days), func(i, j int) { days[i], days[j] = days[j], days[i] })
	}
	w.add("weekend")
	w.list(len(days), ",", func(i int) { w.add(days[i]) })
}

func (w *writer) act(item api.Item) {
	w.add("act", item.Name, "by")
	if item.Of == "" {
		w.add("nature")
	} else {
		w.add(item.Of)
	}
	switch item.Word {
	case api.ActAssign:
		w.add("assigns", item.Give)
	case api.ActNovate:
		w.add("novates", item.Give)
	default:
		if item.Unit != "" {
			w.add("moves")
			w.amount(item.Num, item.Unit)
		}
	}
	if item.To != "" {
		w.add("to", item.To)
	}
}

// clause writes a duty, a ban, an option or a watch.
func (w *writer) clause(item api.Item) {
	w.add(map[int]string{api.ItemDuty: "duty", api.ItemBan: "ban", api.ItemOption: "option", api.ItemWatch: "watch"}[item.Kind], item.Name)
	if item.Kind != api.ItemWatch {
		w.add("of", item.Of)
	}
	w.add(":", item.Act)
	if item.Kind == api.ItemDuty && (item.Times != 1 || w.any()) {
		w.number(item.Times)
		w.add("times")
	}
	w.add(map[bool]string{true: "for", false: "within"}[item.Kind == api.ItemBan])
	w.span(item.Within)
	if item.Kind == api.ItemDuty && (item.Grace != api.Span{} || w.any()) {
		w.add("grace")
		w.span(item.Grace)
	}
	w.conditions(item)
	switch {
	case item.Sum != "":
		w.add("value", item.Sum, "to", item.To)
	case item.Unit != "":
		w.add("value")
		w.amount(item.Num, item.Unit)
		w.add("to", item.To)
	}
	if item.Final {
		w.add("final")
	}
}

func (w *writer) conditions(item api.Item) {
	if len(item.Conds) > 0 {
		w.add("if")
	}
	w.list(len(item.Conds), "and", func(i int) {
		w.add(item.Conds[i].Name, map[int]string{api.IsStarted: "started", api.IsDone: "done", api.IsFailed: "failed", api.IsVoid: "void"}[item.Conds[i].Is])
	})
	if item.By != "" {
		w.add("paused", "by", item.By, "until", item.Until)
	}
}

// canonical returns the canonical tokens of a printable tree.
func canonical(tree api.Source) []string {
	w := &writer{}
	w.source(tree)
	return w.tokens
}

// removed are the blanks that are removed from a line.
var removed = regexp.MustCompile(` ([;:,()])|(\() | ?([/-]) ?`)

// layout returns tokens as the chapter lays them out: the tokens of each line with one blank between two of them, some of which are then removed.
func layout(tokens []string) string {
	var text, line strings.Builder
	margin := ""
	for _, next := range tokens {
		if line.Len() > 0 {
			line.WriteString(" ")
		}
		line.WriteString(next)
		switch next {
		case "}":
			margin = ""
		case ";", "{":
		default:
			continue
		}
		// An opening parenthesis has blanks on both sides, which one pass does not remove.
		laid := removed.ReplaceAllString(removed.ReplaceAllString(line.String(), "$1$2$3"), "$1$2$3")
		text.WriteString(margin + laid + "\n")
		line.Reset()
		if next == "{" {
			margin = "  "
		}
	}
	return text.String() + line.String()
}

// written returns the result that the chapter asks for. A tree is printable exactly if it is the tree of the tokens that are canonical for it.
func written(tree api.Source) (string, api.Errno) {
	tokens := canonical(tree)
	got, err, _ := parser.Parse(strings.Join(tokens, "\n"))
	if err != api.OK || !same(got, tree) {
		return "", api.ErrArg
	}
	return layout(tokens), api.OK
}

// agree compares the result of a tree with the one that the chapter asks for, which keeps the limits, and returns its error.
func agree(t *testing.T, tree api.Source) api.Errno {
	t.Helper()
	want, err := written(tree)
	if got, e := printer.Print(tree); got != want || e != err {
		t.Errorf("%.600q and %d instead of %.600q and %d for %.600s", got, e, want, err, fmt.Sprint(tree))
	}
	return err
}

// pick returns one of several values.
func pick[T any](random *rand.Rand, all ...T) T { return all[random.Intn(len(all))] }

// words are the key words and other names.
func words() []string {
	return strings.Fields(`contract from for days party role of unit goods money weekend holiday span business sum act by assigns novates to moves duty times within grace final ban option watch
		template include as if and started done failed void paused until value mon tue wed thu fri sat sun nature
		x y buyer Pay eur a.b a.1 x_9 Z Days abcdefghijklmnopqrstuvwx duty.of z._ q__ a.b.c.d.e.f.g.h.i.j.k.l2`)
}

// someName returns a name.
func someName(random *rand.Rand) string { return pick(random, words()...) }

// someCount returns a number.
func someCount(random *rand.Rand) int {
	return pick(random, 0, 1, 1, 2, 3, 5, 10, 30, 400, 2026, 999999999999, random.Intn(1000000000000))
}

func someSpan(random *rand.Rand) api.Span {
	if random.Intn(3) == 0 {
		return api.Span{Name: someName(random)}
	}
	return api.Span{Days: someCount(random), Business: random.Intn(2) == 0}
}

func someDate(random *rand.Rand) api.Civil {
	return api.Civil{Year: someCount(random), Month: someCount(random), Day: someCount(random)}
}

func someRatio(random *rand.Rand) api.Ratio {
	return api.Ratio{Num: someCount(random), Den: someCount(random)}
}

// someNames returns up to 4 names.
func someNames(random *rand.Rand) []string {
	var names []string
	for range random.Intn(5) {
		names = append(names, someName(random))
	}
	return names
}

// someTree returns a printable tree with a number of items at most, not counted those within templates.
func someTree(random *rand.Rand, most int) api.Source {
	tree := api.Source{Name: someName(random), From: someDate(random), Days: someCount(random)}
	for range random.Intn(most + 1) {
		tree.Items = append(tree.Items, someItem(random, 1+random.Intn(14)))
	}
	return tree
}

// someItem returns an item of a kind.
func someItem(random *rand.Rand, kind int) api.Item {
	item := api.Item{Kind: kind, Name: someName(random), At: random.Intn(100) - 50}
	switch kind {
	case api.ItemRole:
		item.Of = someName(random)
	case api.ItemUnit:
		item.Word = pick(random, api.UnitGoods, api.UnitMoney)
		if random.Intn(2) == 0 {
			item.Num, item.Unit = someRatio(random), someName(random)
		}
	case api.ItemWeekend:
		item.Name = ""
		item.Days[random.Intn(7)] = true
		for i := range 7 {
			item.Days[i] = item.Days[i] || random.Intn(3) == 0
		}
	case api.ItemHoliday:
		item.Name = ""
		for range 1 + random.Intn(4) {
			item.Dates = append(item.Dates, someDate(random))
		}
	case api.ItemSpan:
		item.Within = api.Span{Days: someCount(random), Business: random.Intn(2) == 0}
	case api.ItemSum:
		item.Num, item.Unit = someRatio(random), someName(random)
	case api.ItemAct:
		someAct(random, &item)
	case api.ItemTemplate:
		item.Names = someNames(random)
		for range random.Intn(6) {
			item.Items = append(item.Items, someItem(random, pick(random, api.ItemDuty, api.ItemBan, api.ItemOption, api.ItemWatch, api.ItemInclude)))
		}
	case api.ItemInclude:
		item.Of, item.Names = someName(random), someNames(random)
	case api.ItemDuty, api.ItemBan, api.ItemOption, api.ItemWatch:
		someClause(random, &item)
	}
	return item
}

// someAct sets the fields of an act.
func someAct(random *rand.Rand, item *api.Item) {
	item.Word = pick(random, api.ActDo, api.ActDo, api.ActAssign, api.ActNovate)
	if item.Of = someName(random); item.Of == "nature" || random.Intn(4) == 0 {
		item.Of = ""
	}
	if item.Word != api.ActDo {
		item.Give, item.To = someName(random), someName(random)
		return
	}
	if random.Intn(2) == 0 {
		item.Num, item.Unit = someRatio(random), someName(random)
	}
	if random.Intn(2) == 0 {
		item.To = someName(random)
	}
}

// someClause sets the fields of a duty, a ban, an option or a watch.
func someClause(random *rand.Rand, item *api.Item) {
	item.Act, item.Within = someName(random), someSpan(random)
	if item.Kind != api.ItemWatch {
		item.Of = someName(random)
	}
	if item.Kind == api.ItemDuty {
		item.Times = someCount(random)
		if random.Intn(2) == 0 {
			item.Grace = someSpan(random)
		}
	}
	for range random.Intn(4) {
		item.Conds = append(item.Conds, api.Named{Name: someName(random), Is: 1 + random.Intn(4)})
	}
	if random.Intn(2) == 0 {
		item.By, item.Until = someName(random), someName(random)
	}
	if item.Kind == api.ItemOption || item.Kind == api.ItemWatch {
		return
	}
	item.Final = random.Intn(2) == 0
	switch random.Intn(3) {
	case 0:
		item.Sum, item.To = someName(random), someName(random)
	case 1:
		item.Num, item.Unit, item.To = someRatio(random), someName(random), someName(random)
	}
}

// someTrees calls a function with many printable trees that keep the limits.
func someTrees(seed int64, number int, use func(random *rand.Rand, tree api.Source)) {
	random := rand.New(rand.NewSource(seed))
	for i := range number {
		most := 12
		if i%50 == 0 {
			most = 150
		}
		tree := someTree(random, most)
		if text, err := written(tree); err == api.OK && len(text) <= api.MaxSource {
			use(random, tree)
		}
	}
}

// source returns a text of a tree with any gaps, and with any of the ways to write something.
func source(random *rand.Rand, tree api.Source) string {
	w := &writer{random: random}
	w.source(tree)
	var text strings.Builder
	for _, next := range w.tokens {
		text.WriteString(next + pick(random, " ", " ", " ", "\n", "\t", "  ", " # party x;\n", "#\n", " \n\n"))
	}
	return text.String()
}

// lines returns the lines of the items of a text.
func lines(text string) string {
	_, after, _ := strings.Cut(text, "\n")
	return after
}

// joined returns a tree with the items of two others.
func joined(a, b api.Source) api.Source {
	a.Items = slices.Concat(a.Items, b.Items)
	return a
}
