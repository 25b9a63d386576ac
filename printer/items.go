package printer

import (
	"maps"

	"estoppel/api"
)

// write writes the tokens of an item. It takes the fields of its kind from the item, so that what is left shows fields of other kinds.
type write func(w *writer, item *api.Item)

// outer returns the writers of all kinds of items.
func outer() map[int]write {
	all := map[int]write{
		api.ItemParty:    (*writer).party,
		api.ItemRole:     (*writer).role,
		api.ItemUnit:     (*writer).unit,
		api.ItemWeekend:  (*writer).weekend,
		api.ItemHoliday:  (*writer).holiday,
		api.ItemSpan:     (*writer).definition,
		api.ItemSum:      (*writer).sum,
		api.ItemAct:      (*writer).act,
		api.ItemTemplate: (*writer).template,
	}
	maps.Copy(all, inner())
	return all
}

// inner returns the writers of the items that can stand within a template, too.
func inner() map[int]write {
	return map[int]write{
		api.ItemDuty:    (*writer).duty,
		api.ItemBan:     (*writer).ban,
		api.ItemOption:  (*writer).option,
		api.ItemWatch:   (*writer).watch,
		api.ItemInclude: (*writer).include,
	}
}

// take returns the value of a field, and sets the field to zero.
func take[T any](field *T) T {
	var zero T
	value := *field
	*field = zero
	return value
}

// isEmpty reports whether all fields of an item are zero.
func isEmpty(item api.Item) bool {
	texts := len(item.Name) + len(item.Of) + len(item.Act) + len(item.By) + len(item.Until) + len(item.Unit) + len(item.Sum) + len(item.Give) + len(item.To)
	lists := len(item.Conds) + len(item.Dates) + len(item.Names) + len(item.Items)
	spans := item.Within == api.Span{} && item.Grace == api.Span{}
	values := item.Kind == 0 && item.At == 0 && item.Word == 0 && item.Times == 0 && item.Num == api.Ratio{} && !item.Final && item.Days == [7]bool{}
	return texts == 0 && lists == 0 && spans && values
}

func (w *writer) party(item *api.Item) {
	w.put("party")
	w.name(take(&item.Name))
	w.put(";")
}

func (w *writer) role(item *api.Item) {
	w.put("role")
	w.name(take(&item.Name))
	w.put("of")
	w.name(take(&item.Of))
	w.put(";")
}

func (w *writer) unit(item *api.Item) {
	w.put("unit")
	w.name(take(&item.Name))
	w.choice(take(&item.Word), api.UnitGoods, "goods", "money")
	if item.Unit != "" {
		w.put("=")
		w.amount(item)
	}
	w.put(";")
}

func (w *writer) weekend(item *api.Item) {
	w.put("weekend")
	number := 0
	for i, free := range take(&item.Days) {
		if free {
			w.comma(number)
			w.choice(i, 0, "mon", "tue", "wed", "thu", "fri", "sat", "sun")
			number++
		}
	}
	must(number > 0)
	w.put(";")
}

func (w *writer) holiday(item *api.Item) {
	w.put("holiday")
	must(len(item.Dates) > 0)
	for i, date := range take(&item.Dates) {
		w.comma(i)
		w.date(date)
	}
	w.put(";")
}

func (w *writer) definition(item *api.Item) {
	w.put("span")
	w.name(take(&item.Name))
	w.put("=")
	w.days(take(&item.Within))
	w.put(";")
}

func (w *writer) sum(item *api.Item) {
	w.put("sum")
	w.name(take(&item.Name))
	w.put("=")
	w.amount(item)
	w.put(";")
}

func (w *writer) act(item *api.Item) {
	w.put("act")
	w.name(take(&item.Name))
	w.put("by")
	w.doer(take(&item.Of))
	switch take(&item.Word) {
	case api.ActDo:
		w.deed(item)
	case api.ActAssign:
		w.gift("assigns", item)
	case api.ActNovate:
		w.gift("novates", item)
	default:
		must(false)
	}
	w.put(";")
}

// doer writes the role that does an act, or nature, whose name stands for no role there.
func (w *writer) doer(role string) {
	must(role != "nature")
	if role == "" {
		role = "nature"
	}
	w.name(role)
}

// deed writes what an act moves, and where to.
func (w *writer) deed(item *api.Item) {
	if item.Unit != "" {
		w.put("moves")
		w.amount(item)
	}
	if item.To != "" {
		w.put("to")
		w.name(take(&item.To))
	}
}

// gift writes the role that an act gives away, and the party that gets it.
func (w *writer) gift(word string, item *api.Item) {
	w.put(word)
	w.name(take(&item.Give))
	w.put("to")
	w.name(take(&item.To))
}

func (w *writer) duty(item *api.Item) {
	w.put("duty")
	w.bound(item)
	if times := take(&item.Times); times != 1 {
		w.number(times)
		w.put("times")
	}
	w.put("within")
	w.span(take(&item.Within))
	if grace := take(&item.Grace); grace != (api.Span{}) {
		w.put("grace")
		w.span(grace)
	}
	w.conditions(item)
	w.cost(item)
	w.put(";")
}

func (w *writer) ban(item *api.Item) {
	w.put("ban")
	w.bound(item)
	w.put("for")
	w.span(take(&item.Within))
	w.conditions(item)
	w.cost(item)
	w.put(";")
}

func (w *writer) option(item *api.Item) {
	w.put("option")
	w.bound(item)
	w.put("within")
	w.span(take(&item.Within))
	w.conditions(item)
	w.put(";")
}

func (w *writer) watch(item *api.Item) {
	w.put("watch")
	w.name(take(&item.Name))
	w.put(":")
	w.name(take(&item.Act))
	w.put("within")
	w.span(take(&item.Within))
	w.conditions(item)
	w.put(";")
}

func (w *writer) template(item *api.Item) {
	w.put("template")
	w.name(take(&item.Name))
	w.names(take(&item.Names))
	w.put("{")
	w.margin = margin
	w.list(take(&item.Items), inner())
	w.margin = ""
	w.put("}")
}

func (w *writer) include(item *api.Item) {
	w.put("include")
	w.name(take(&item.Of))
	w.put("as")
	w.name(take(&item.Name))
	w.names(take(&item.Names))
	w.put(";")
}

// bound writes the name of a clause, its bearer and its act.
func (w *writer) bound(item *api.Item) {
	w.name(take(&item.Name))
	w.put("of")
	w.name(take(&item.Of))
	w.put(":")
	w.name(take(&item.Act))
}

// amount writes a ratio and a unit.
func (w *writer) amount(item *api.Item) {
	w.ratio(take(&item.Num))
	w.name(take(&item.Unit))
}

// conditions writes the conditions of a clause, and the acts that pause and resume it.
func (w *writer) conditions(item *api.Item) {
	word := "if"
	for _, named := range take(&item.Conds) {
		w.put(word)
		w.name(named.Name)
		w.choice(named.Is, api.IsStarted, "started", "done", "failed", "void")
		word = "and"
	}
	if item.By != "" {
		w.put("paused", "by")
		w.name(take(&item.By))
		w.put("until")
		w.name(take(&item.Until))
	}
}

// cost writes what failing a clause costs, and whether it is final.
func (w *writer) cost(item *api.Item) {
	switch {
	case item.Sum != "":
		w.put("value")
		w.name(take(&item.Sum))
		w.payee(item)
	case item.Unit != "":
		w.put("value")
		w.amount(item)
		w.payee(item)
	}
	if take(&item.Final) {
		w.put("final")
	}
}

// payee writes the role that gets what failing a clause costs.
func (w *writer) payee(item *api.Item) {
	w.put("to")
	w.name(take(&item.To))
}
