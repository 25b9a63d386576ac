package parser

import (
	"maps"

	"estoppel/api"
)

// parse consumes what follows the key word of an item, and sets the fields of its kind.
type parse func(r *reader, item *api.Item)

// outer returns the parsers of all kinds of items by their key words.
func outer() map[string]parse {
	all := map[string]parse{
		"party":    (*reader).party,
		"role":     (*reader).role,
		"unit":     (*reader).unit,
		"weekend":  (*reader).weekend,
		"holiday":  (*reader).holiday,
		"span":     (*reader).definition,
		"sum":      (*reader).sum,
		"act":      (*reader).act,
		"template": (*reader).template,
	}
	maps.Copy(all, inner())
	return all
}

// inner returns the parsers of the items that can stand within a template, too.
func inner() map[string]parse {
	return map[string]parse{
		"duty":    (*reader).duty,
		"ban":     (*reader).ban,
		"option":  (*reader).option,
		"watch":   (*reader).watch,
		"include": (*reader).include,
	}
}

func (r *reader) party(item *api.Item) {
	item.Kind = api.ItemParty
	item.Name = r.name()
	r.expect(";")
}

func (r *reader) role(item *api.Item) {
	item.Kind = api.ItemRole
	item.Name = r.name()
	item.Of = r.after("of")
	r.expect(";")
}

func (r *reader) unit(item *api.Item) {
	item.Kind = api.ItemUnit
	item.Name = r.name()
	// The words stand in the order of their constants.
	item.Word = api.UnitGoods + r.choice("goods", "money")
	if r.accept("=") {
		r.amount(item)
	}
	r.expect(";")
}

func (r *reader) weekend(item *api.Item) {
	item.Kind = api.ItemWeekend
	for more := true; more; more = r.accept(",") {
		item.Days[r.choice("mon", "tue", "wed", "thu", "fri", "sat", "sun")] = true
	}
	r.expect(";")
}

func (r *reader) holiday(item *api.Item) {
	item.Kind = api.ItemHoliday
	for more := true; more; more = r.accept(",") {
		item.Dates = append(item.Dates, r.date())
	}
	r.expect(";")
}

func (r *reader) definition(item *api.Item) {
	item.Kind = api.ItemSpan
	item.Name = r.name()
	r.expect("=")
	item.Within = r.days()
	r.expect(";")
}

func (r *reader) sum(item *api.Item) {
	item.Kind = api.ItemSum
	item.Name = r.name()
	r.expect("=")
	r.amount(item)
	r.expect(";")
}

func (r *reader) act(item *api.Item) {
	item.Kind = api.ItemAct
	item.Name = r.name()
	item.Of = r.after("by")
	if item.Of == "nature" {
		item.Of = ""
	}
	switch {
	case r.accept("assigns"):
		item.Word = api.ActAssign
		r.gift(item)
	case r.accept("novates"):
		item.Word = api.ActNovate
		r.gift(item)
	default:
		item.Word = api.ActDo
		r.deed(item)
	}
	r.expect(";")
}

// gift consumes the role that an act gives away, and the party that gets it.
func (r *reader) gift(item *api.Item) {
	item.Give = r.name()
	item.To = r.after("to")
}

// deed consumes what an act moves, and where to.
func (r *reader) deed(item *api.Item) {
	if r.accept("moves") {
		r.amount(item)
	}
	if r.accept("to") {
		item.To = r.name()
	}
}

func (r *reader) duty(item *api.Item) {
	item.Kind = api.ItemDuty
	r.bound(item)
	item.Times = 1
	if r.next().Kind == api.TokNumber {
		item.Times = r.number()
		r.expect("times")
	}
	r.expect("within")
	item.Within = r.span()
	if r.accept("grace") {
		item.Grace = r.span()
	}
	r.conditions(item)
	r.cost(item)
	r.expect(";")
}

func (r *reader) ban(item *api.Item) {
	item.Kind = api.ItemBan
	r.bound(item)
	r.expect("for")
	item.Within = r.span()
	r.conditions(item)
	r.cost(item)
	r.expect(";")
}

func (r *reader) option(item *api.Item) {
	item.Kind = api.ItemOption
	r.bound(item)
	r.expect("within")
	item.Within = r.span()
	r.conditions(item)
	r.expect(";")
}

func (r *reader) watch(item *api.Item) {
	item.Kind = api.ItemWatch
	item.Name = r.name()
	item.Act = r.after(":")
	r.expect("within")
	item.Within = r.span()
	r.conditions(item)
	r.expect(";")
}

func (r *reader) template(item *api.Item) {
	item.Kind = api.ItemTemplate
	item.Name = r.name()
	item.Names = r.names()
	r.expect("{")
	item.Items = r.list(inner())
	r.expect("}")
}

func (r *reader) include(item *api.Item) {
	item.Kind = api.ItemInclude
	item.Of = r.name()
	item.Name = r.after("as")
	item.Names = r.names()
	r.expect(";")
}

// bound consumes the name of a clause, its bearer and its act.
func (r *reader) bound(item *api.Item) {
	item.Name = r.name()
	item.Of = r.after("of")
	item.Act = r.after(":")
}

// amount consumes a ratio and a unit.
func (r *reader) amount(item *api.Item) {
	item.Num = r.ratio()
	item.Unit = r.name()
}

// conditions consumes the conditions of a clause, and the acts that pause and resume it.
func (r *reader) conditions(item *api.Item) {
	for more := r.accept("if"); more; more = r.accept("and") {
		named := api.Named{Name: r.name()}
		// The words stand in the order of their constants.
		named.Is = api.IsStarted + r.choice("started", "done", "failed", "void")
		item.Conds = append(item.Conds, named)
	}
	if r.accept("paused") {
		item.By = r.after("by")
		item.Until = r.after("until")
	}
}

// cost consumes what failing a clause costs, and whether it is final.
func (r *reader) cost(item *api.Item) {
	if r.accept("value") {
		if r.next().Kind == api.TokName {
			item.Sum = r.name()
		} else {
			r.amount(item)
		}
		item.To = r.after("to")
	}
	item.Final = r.accept("final")
}
