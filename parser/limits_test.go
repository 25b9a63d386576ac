package parser_test

import (
	"slices"
	"strings"
	"testing"

	"estoppel/api"
	"estoppel/parser"
)

// many returns a text with a number of items with one text.
func many(number int, text string) string { return start + strings.Repeat(text, number) }

// expectCount compares the number of items of a text, also of those within templates, with another one.
func expectCount(t *testing.T, text string, want int) {
	t.Helper()
	if tree, err, at := parser.Parse(text); err != api.OK || at != 0 || count(tree.Items) != want {
		t.Errorf("%.100q: %d at %d, %d items", text, err, at, count(tree.Items))
	}
}

// P7.1, G1: up to 600 items of each kind, and the first token of the next one.
func TestManyItems(t *testing.T) {
	for _, one := range slices.Concat(declarations(), clauses(), templates()[:3]) {
		// Longer texts would exceed the limits of layer 6.
		if len(one.text) > 30 || len(strings.Fields(blanked(one.text))) > 8 {
			continue
		}
		each := 1 + len(one.item.Items)
		most := 600 / each
		expectCount(t, many(most-1, one.text), 600-each)
		full := many(most, one.text)
		expectCount(t, full, 600)
		expectCount(t, full+"# party p;", 600)
		for _, next := range []string{"party p;", "role", "duty d of r", "template t() {}", "include x", "weekend ;", "act act act", one.text} {
			expectFault(t, full+next, api.ErrLimit, len(full))
			expectFault(t, full+" # c\n"+next, api.ErrLimit, len(full)+5)
		}
		for _, next := range []string{"x", ";", "5", "}", "contract", "days"} {
			expectFault(t, full+next, api.ErrSyntax, len(full))
		}
	}
}

// P7.1, G1: items within templates count, and so do these themselves.
func TestManyItemsOfTemplates(t *testing.T) {
	in := "include t as a();"
	for _, before := range []int{0, 1, 300, 590, 597, 598} {
		text := many(before, "party a;") + "template t(){"
		within := text + strings.Repeat(in, 599-before)
		expectCount(t, within+"}", 600)
		expectFault(t, within, api.ErrEnd, len(within))
		expectFault(t, within+in+"}", api.ErrLimit, len(within))
		expectFault(t, within+"duty", api.ErrLimit, len(within))
		expectFault(t, within+" watch 5", api.ErrLimit, len(within)+1)
		expectFault(t, within+"option ;", api.ErrLimit, len(within))
		expectFault(t, within+"ban", api.ErrLimit, len(within))
		expectFault(t, within+"party p;}", api.ErrSyntax, len(within))
		expectFault(t, within+"template t(){}}", api.ErrSyntax, len(within))
		expectFault(t, within+"x", api.ErrSyntax, len(within))
		expectFault(t, within+"};", api.ErrSyntax, len(within)+1)
		expectFault(t, within+"}party p;", api.ErrLimit, len(within)+1)
		expectFault(t, within+"} template", api.ErrLimit, len(within)+2)
		expectFault(t, within+"}x", api.ErrSyntax, len(within)+1)
		less := strings.TrimSuffix(within, in)
		expectCount(t, less+"}"+"party b;", 600)
		expectCount(t, less+"} template t(){}", 600)
		expectFault(t, less+"} template t(){"+in+"}", api.ErrLimit, len(less)+15)
		expectFault(t, less+"} template t(){ x", api.ErrSyntax, len(less)+16)
		expectFault(t, less+"} template t(){", api.ErrEnd, len(less)+15)
	}
	full := many(599, "party a;")
	expectCount(t, full+"template t(){}", 600)
	expectFault(t, full+"template t(){include t as a();}", api.ErrLimit, len(full)+13)
	expectFault(t, full+"template t(){party a;}", api.ErrSyntax, len(full)+13)
	expectFault(t, full+"template t(", api.ErrEnd, len(full)+11)
	full += "party a;"
	expectFault(t, full+"template t(){include t as a();}", api.ErrLimit, len(full))
}

// P7.1, G1: an error before the item that is too much comes first.
func TestErrorsBeforeManyItems(t *testing.T) {
	full := many(300, "party a;")
	rest := strings.Repeat("party b;", 500)
	expectFault(t, full+"party;"+rest, api.ErrSyntax, len(full)+5)
	expectFault(t, full+"template t(){"+rest, api.ErrSyntax, len(full)+13)
	expectFault(t, full+rest+"party;", api.ErrLimit, len(full)+300*8)
	expectFault(t, full+rest[:300*8]+"; party;", api.ErrSyntax, len(full)+300*8)
	expectFault(t, full+rest+"!", api.ErrChar, len(full)+500*8)
	expectFault(t, full+rest[:299*8]+"party"+" b", api.ErrEnd, len(full)+299*8+7)
}

// P7.1, G1: texts at the limits of layer 6 have trees, whatever they have.
func TestLargeTexts(t *testing.T) {
	expectCount(t, start+"template t("+strings.Repeat("a,", 2481)+"a) {} # "+strings.Repeat("c", 20000-38-11-2*2481-8), 1)
	expectCount(t, start+"holiday "+strings.Repeat("1-2-3,", 830)+"1-2-3;", 1)
	expectCount(t, start+"weekend "+strings.Repeat("mon,", 2492)+"sun;", 1)
	conditions, _, _ := parser.Parse(start + "watch w: a within s if x done" + strings.Repeat(" and y void", 1650) + ";")
	if len(conditions.Items) != 1 || len(conditions.Items[0].Conds) != 1651 {
		t.Error(short(conditions))
	}
	long := start + "template t(" + strings.Repeat("a,", 2488)
	expectFault(t, long, api.ErrEnd, len(long))
	expectFault(t, long+",", api.ErrSyntax, len(long))
	expectFault(t, long+"a,a,a,a,a,a", api.ErrLimit, len(long)+9)
	expectFault(t, strings.Repeat("contract ", 2222), api.ErrSyntax, 18)
	expectFault(t, strings.Repeat("{", 5000), api.ErrSyntax, 0)
	expectFault(t, start+strings.Repeat("template t(){", 700), api.ErrSyntax, start38+13)
}
