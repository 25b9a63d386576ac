package printer_test

import (
	"math"
	"math/rand"
	"reflect"
	"strings"
	"testing"

	"estoppel/api"
	"estoppel/lexer"
)

// values returns values of a type that a field can be changed to.
func values(kind reflect.Type) []any {
	switch kind {
	case reflect.TypeFor[int]():
		return []any{0, 1, 2, 3, 4, 5, 7, 15, -1, 999999999999, 1000000000000, math.MaxInt, math.MinInt}
	case reflect.TypeFor[string]():
		return []any{"", "a", "nature", "days", "a.b", "abcdefghijklmnopqrstuvwx", "abcdefghijklmnopqrstuvwxy", "7", "7x", "_a", "a.", ".a", "a..b", "a b", " a", "a ", "a;", ";", "a#", "a\n", "\xc3\xa9", "a\x00", "to", "a, b", "3 days"}
	case reflect.TypeFor[bool]():
		return []any{true, false}
	}
	return nil
}

// fields calls a function with each number, text and bool of a value, also of those in its slices.
func fields(value reflect.Value, use func(field reflect.Value)) {
	switch value.Kind() {
	case reflect.Struct:
		for i := range value.NumField() {
			if value.Type().Field(i).Name != "At" {
				fields(value.Field(i), use)
			}
		}
	case reflect.Slice, reflect.Array:
		for i := range value.Len() {
			fields(value.Index(i), use)
		}
	default:
		use(value)
	}
}

// lists calls a function with each slice of a value, also of those in its slices.
func lists(value reflect.Value, use func(list reflect.Value)) {
	switch value.Kind() {
	case reflect.Struct:
		for i := range value.NumField() {
			lists(value.Field(i), use)
		}
	case reflect.Slice:
		use(value)
		for i := range value.Len() {
			lists(value.Index(i), use)
		}
	}
}

// within returns trees of a sample, outside and inside a template.
func within(one sample) []api.Source {
	all := []api.Source{origin(one.item)}
	if one.item.Kind >= api.ItemDuty && one.item.Kind != api.ItemTemplate {
		all = append(all, origin(api.Item{Kind: api.ItemTemplate, Name: "t", Items: []api.Item{one.item}}))
	}
	return all
}

// P8.1, H1: each field of items of all kinds, changed to values that are good for it, for others, or for none.
func TestFields(t *testing.T) {
	number := map[api.Errno]int{}
	for _, one := range samples() {
		for _, tree := range within(one) {
			tree = clone(tree)
			fields(reflect.ValueOf(&tree).Elem(), func(field reflect.Value) {
				old := reflect.ValueOf(field.Interface())
				for _, value := range values(field.Type()) {
					field.Set(reflect.ValueOf(value))
					number[agree(t, tree)]++
				}
				field.Set(old)
			})
		}
	}
	if number[api.OK] < 2000 || number[api.ErrArg] < 10000 {
		t.Error("only", number)
	}
}

// P8.1, H1: two fields that are changed at once, since many belong together.
func TestPairsOfFields(t *testing.T) {
	number := map[api.Errno]int{}
	few := map[reflect.Type][]any{reflect.TypeFor[int](): {0, 1, 2, 3}, reflect.TypeFor[string](): {"", "nature", "x"}, reflect.TypeFor[bool](): {true, false}}
	for _, one := range samples() {
		if len(one.item.Items)+len(one.item.Conds)+len(one.item.Dates) > 2 {
			continue
		}
		tree := clone(origin(one.item))
		var all []reflect.Value
		fields(reflect.ValueOf(&tree.Items).Elem(), func(field reflect.Value) { all = append(all, field) })
		for i, first := range all {
			for _, second := range all[:i] {
				one, two := reflect.ValueOf(first.Interface()), reflect.ValueOf(second.Interface())
				for _, value := range few[first.Type()] {
					for _, other := range few[second.Type()] {
						first.Set(reflect.ValueOf(value))
						second.Set(reflect.ValueOf(other))
						number[agree(t, tree)]++
					}
				}
				first.Set(one)
				second.Set(two)
			}
		}
	}
	if number[api.OK] < 1000 || number[api.ErrArg] < 50000 {
		t.Error("only", number)
	}
}

// P8.1, H1: each list of items of all kinds, with an element more that is zero or not, and without its last one.
func TestLists(t *testing.T) {
	number := map[api.Errno]int{}
	more := map[reflect.Type][]any{
		reflect.TypeFor[string]():    {"", "a", "nature", "5"},
		reflect.TypeFor[api.Named](): {api.Named{}, api.Named{Name: "a"}, api.Named{Is: 1}, api.Named{Name: "a", Is: 4}, api.Named{Name: "a", Is: 5}, api.Named{Name: "a", Is: -1}},
		reflect.TypeFor[api.Civil](): {api.Civil{}, api.Civil{Year: 1, Month: 2, Day: 3}, api.Civil{Year: -1}, api.Civil{Month: -1}, api.Civil{Day: -1}},
		reflect.TypeFor[api.Item]():  {api.Item{}, api.Item{Kind: api.ItemParty, Name: "p"}, api.Item{Kind: api.ItemTemplate, Name: "t"}, clauses()[0].item, clauses()[7].item, api.Item{Kind: api.ItemInclude, Name: "i", Of: "t", Names: []string{"a", ""}}},
	}
	for _, one := range samples() {
		for _, tree := range within(one) {
			tree = clone(tree)
			lists(reflect.ValueOf(&tree).Elem(), func(list reflect.Value) {
				old := reflect.ValueOf(list.Interface())
				for _, value := range more[list.Type().Elem()] {
					list.Set(reflect.Append(old, reflect.ValueOf(value)))
					number[agree(t, tree)]++
				}
				if old.Len() > 0 {
					list.Set(old.Slice(0, old.Len()-1))
					number[agree(t, tree)]++
				}
				list.Set(old)
			})
		}
	}
	if number[api.OK] < 300 || number[api.ErrArg] < 500 {
		t.Error("only", number)
	}
}

// P8.1, H1: random trees with a few changes.
func TestChangedTrees(t *testing.T) {
	number := map[api.Errno]int{}
	someTrees(1, 8000, func(random *rand.Rand, tree api.Source) {
		tree = clone(tree)
		var all []reflect.Value
		fields(reflect.ValueOf(&tree).Elem(), func(field reflect.Value) { all = append(all, field) })
		for range random.Intn(3) {
			field := all[random.Intn(len(all))]
			value := pick(random, values(field.Type())...)
			if text, ok := value.(string); ok && strings.ContainsAny(text, "7_ .;#\n\x00\xc3,") && random.Intn(4) > 0 {
				continue
			}
			field.Set(reflect.ValueOf(value))
		}
		number[agree(t, tree)]++
	})
	if number[api.OK] < 2000 || number[api.ErrArg] < 2000 {
		t.Error("only", number)
	}
}

// expectName compares whether a text can be a name with what layer 6 says.
func expectName(t *testing.T, name string) bool {
	t.Helper()
	tokens, err, _ := lexer.Lex(name)
	good := err == api.OK && len(tokens) == 1 && tokens[0].Kind == api.TokName && tokens[0].Text == name
	tree := origin(api.Item{Kind: api.ItemParty, Name: name})
	if good {
		expect(t, tree, start+"party "+name+";\n")
	} else {
		expectFault(t, tree, api.ErrArg)
	}
	return good
}

// P8.1, H1: names are those of layer 6: all texts of one and two bytes, of up to five bytes of all sorts, and at and around the greatest length.
func TestNames(t *testing.T) {
	number := 0
	check := func(name string) {
		if expectName(t, name) {
			number++
		}
	}
	for a := range 256 {
		check(string([]byte{byte(a)}))
		for b := range 256 {
			check(string([]byte{byte(a), byte(b)}))
			check("a" + string([]byte{byte(a), byte(b)}))
		}
	}
	var extend func(name string)
	extend = func(name string) {
		check(name)
		for _, next := range "aZ0_. ;é" {
			if len(name) < 5 {
				extend(name + string(next))
			}
		}
	}
	extend("")
	for length := range 30 {
		for _, end := range []string{"", ".", ".a", "_", "9", ".9", "._", "..a", "é", "é.a", " ", "#", "/", ":", "@", "[", "`", "{", "^", "-"} {
			check(strings.Repeat("a", length) + end)
			check("a" + strings.Repeat(".b", length/2) + end)
			check(strings.Repeat("_", length) + end)
			check("x" + strings.Repeat("9", length) + end)
		}
	}
	for _, word := range words() {
		check(word)
	}
	if number < 8000 {
		t.Error("only", number)
	}
}

// P8.1, H1: all sets of lists that an item can have, of which no kind has more than two.
func TestSetsOfLists(t *testing.T) {
	for _, one := range samples() {
		for set := range 16 {
			item := one.item
			if set&1 > 0 {
				item.Conds = []api.Named{{Name: "x", Is: api.IsDone}}
			}
			if set&2 > 0 {
				item.Dates = []api.Civil{{Year: 1, Month: 2, Day: 3}}
			}
			if set&4 > 0 {
				item.Names = []string{"n"}
			}
			if set&8 > 0 {
				item.Items = []api.Item{clauses()[0].item}
			}
			agree(t, origin(item))
		}
	}
}
