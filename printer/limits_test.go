package printer_test

import (
	"slices"
	"strings"
	"testing"

	"estoppel/api"
	"estoppel/printer"
)

// many returns an item a number of times.
func many(number int, item api.Item) []api.Item { return slices.Repeat([]api.Item{item}, number) }

// party returns a party with a name.
func party(name string) api.Item { return api.Item{Kind: api.ItemParty, Name: name} }

// template returns a template with items.
func template(items ...api.Item) api.Item {
	return api.Item{Kind: api.ItemTemplate, Name: "t", Items: items}
}

// include is an inclusion, and bad an item that is not printable.
var (
	include = api.Item{Kind: api.ItemInclude, Name: "p", Of: "t"}
	bad     = api.Item{Kind: api.ItemParty, Name: "p", Of: "q"}
)

// limited reports whether a printable tree exceeds a limit, and how.
func limited(tree api.Source) (items, tokens, bytes bool) {
	all := canonical(tree)
	return count(tree.Items) > 600, len(all) > 5000, len(layout(all)) > 20000
}

// checkLimits compares the result of a printable tree with the one that the limits ask for.
func checkLimits(t *testing.T, tree api.Source) {
	t.Helper()
	items, tokens, bytes := limited(tree)
	if items || tokens || bytes {
		expectFault(t, tree, api.ErrLimit)
	} else {
		expect(t, tree, layout(canonical(tree)))
	}
	tree.Items = slices.Concat(tree.Items, []api.Item{bad})
	expectFault(t, tree, api.ErrArg)
}

// P8.1, H1: up to 600 items, those within templates and these themselves counted; no other limit is exceeded.
func TestManyItems(t *testing.T) {
	for _, inside := range []int{0, 1, 2, 299, 300, 597, 598, 599} {
		for number := max(598, inside+1); number <= 602; number++ {
			all := append(many(number-1-inside, party("p")), template(many(inside, include)...))
			for _, tree := range []api.Source{origin(all...), origin(append([]api.Item{all[len(all)-1]}, all[:len(all)-1]...)...)} {
				items, tokens, bytes := limited(tree)
				if items != (number > 600) || tokens || bytes {
					t.Fatal(inside, number, items, tokens, bytes)
				}
				checkLimits(t, tree)
			}
		}
	}
	for number := 598; number <= 602; number++ {
		checkLimits(t, origin(many(number, party("p"))...))
		checkLimits(t, origin(many(number, api.Item{Kind: api.ItemUnit, Name: "u", Word: 1})...))
		checkLimits(t, origin(many(number, template())...))
		checkLimits(t, origin(template(many(number-1, include)...)))
	}
	checkLimits(t, origin(many(300, template(include))...))
	checkLimits(t, origin(append(many(300, template(include)), party("p"))...))
	checkLimits(t, origin(append(many(299, template(include)), party("p"), party("p"))...))
	checkLimits(t, origin(append(many(299, template(include)), party("p"), party("p"), party("p"))...))
}

// P8.1, H1: up to 5000 canonical tokens; no other limit is exceeded.
func TestManyTokens(t *testing.T) {
	beginning := len(canonical(origin()))
	seen := map[int]bool{}
	check := func(tree api.Source) {
		items, tokens, bytes := limited(tree)
		number := len(canonical(tree))
		if items || tokens != (number > 5000) || bytes {
			t.Fatal(number, items, tokens, bytes)
		}
		seen[number] = true
		checkLimits(t, tree)
	}
	for _, parties := range []int{0, 1, 2, 3, 100} {
		for length := (4990 - beginning - 3*parties) / 2; length <= (5010-beginning-3*parties)/2; length++ {
			names := slices.Repeat([]string{"a"}, length)
			check(origin(append(many(parties, party("p")), api.Item{Kind: api.ItemTemplate, Name: "t", Names: names[3:]})...))
			check(origin(append(many(parties, party("p")), api.Item{Kind: api.ItemInclude, Name: "i", Of: "t", Names: names[3:]})...))
			check(origin(append(many(parties, party("p")), template(api.Item{Kind: api.ItemInclude, Name: "i", Of: "t", Names: names[6:]}))...))
		}
		for length := (4990 - beginning - 3*parties) / 6; length <= (5010-beginning-3*parties)/6; length++ {
			check(origin(append(many(parties, party("p")), api.Item{Kind: api.ItemHoliday, Dates: make([]api.Civil, length)})...))
		}
		for length := (4990 - beginning - 3*parties) / 3; length <= (5010-beginning-3*parties)/3; length++ {
			conditions := slices.Repeat([]api.Named{{Name: "x", Is: api.IsVoid}}, length-4)
			check(origin(append(many(parties, party("p")), api.Item{Kind: api.ItemWatch, Name: "w", Act: "a", Within: named("s"), Conds: conditions})...))
		}
	}
	for number := 4995; number <= 5005; number++ {
		if !seen[number] {
			t.Error("no tree of", number, "tokens")
		}
	}
}

// P8.1, H1: up to 20000 bytes of canonical text; no other limit is exceeded.
func TestManyBytes(t *testing.T) {
	name := strings.Repeat("n", 24)
	role := api.Item{Kind: api.ItemRole, Name: name, Of: name}
	seen := map[int]bool{}
	check := func(items ...api.Item) {
		tree := origin(items...)
		size := len(layout(canonical(tree)))
		if many, tokens, bytes := limited(tree); many || tokens || bytes != (size > 20000) {
			t.Fatal(size, many, tokens, bytes)
		}
		seen[size] = true
		checkLimits(t, tree)
	}
	within := api.Item{Kind: api.ItemInclude, Name: name, Of: name}
	for sum := 2; sum <= 48; sum++ {
		last := api.Item{Kind: api.ItemRole, Name: name[:(sum+1)/2], Of: name[:sum/2]}
		check(append(many(338, role), last)...)
		check(append([]api.Item{last}, many(338, role)...)...)
		check(append(many(337, role), last, last)...)
		last.Kind = api.ItemInclude
		check(append(many(337, role), last)...)
		check(append(many(337, role), template(last))...)
		check(template(append(many(301, within), last)...))
		check(template(append(many(300, within), last, last)...))
	}
	for size := 19990; size <= 20010; size++ {
		if !seen[size] {
			t.Error("no text of", size, "bytes")
		}
	}
	long := api.Item{Kind: api.ItemHoliday, Dates: slices.Repeat([]api.Civil{{Year: 999999999999, Month: 999999999999, Day: 999999999999}}, 600)}
	checkLimits(t, origin(long))
	checkLimits(t, origin(long, party("p")))
}

// P8.1, H1: one limit alone is enough, and a tree that is not printable is told first, wherever it is not.
func TestFirstOfErrors(t *testing.T) {
	name := strings.Repeat("n", 24)
	for i, tree := range []api.Source{
		origin(many(601, party("p"))...),
		origin(template(slices.Repeat([]api.Item{{Kind: api.ItemInclude, Name: "i", Of: "t", Names: slices.Repeat([]string{"a"}, 200)}}, 15)...)),
		origin(many(400, api.Item{Kind: api.ItemRole, Name: name, Of: name})...),
		origin(append(many(700, api.Item{Kind: api.ItemRole, Name: name, Of: name}), api.Item{Kind: api.ItemHoliday, Dates: make([]api.Civil, 1000)})...),
	} {
		if items, tokens, bytes := limited(tree); items != (i == 0 || i == 3) || tokens != (i == 1 || i == 3) || bytes != (i == 2 || i == 3) {
			t.Error(i, items, tokens, bytes)
		}
		expectFault(t, tree, api.ErrLimit)
		for _, at := range []int{0, len(tree.Items) / 2, len(tree.Items)} {
			worse := tree
			worse.Items = slices.Insert(slices.Clone(tree.Items), at, bad)
			expectFault(t, worse, api.ErrArg)
			worse.Items = slices.Insert(slices.Clone(tree.Items), at, template(bad))
			expectFault(t, worse, api.ErrArg)
			worse.Items = slices.Insert(slices.Clone(tree.Items), at, template(include, template()))
			expectFault(t, worse, api.ErrArg)
		}
		tree.Days = -1
		expectFault(t, tree, api.ErrArg)
	}
}

// P1: trees that are much too large have an error, too, and templates that contain themselves.
func TestHugeTrees(t *testing.T) {
	huge := many(100000, party("p"))
	expectFault(t, origin(huge...), api.ErrLimit)
	huge[99999].Name = ""
	expectFault(t, origin(huge...), api.ErrArg)
	expectFault(t, origin(template(many(100000, include)...)), api.ErrLimit)
	expectFault(t, origin(api.Item{Kind: api.ItemHoliday, Dates: make([]api.Civil, 1000000)}), api.ErrLimit)
	expectFault(t, origin(party(strings.Repeat("n", 1<<24))), api.ErrArg)
	expectFault(t, api.Source{Name: strings.Repeat("n", 1<<24), Items: huge}, api.ErrArg)
	nested := party("p")
	for range 100000 {
		nested = template(nested)
	}
	expectFault(t, origin(nested), api.ErrArg)
	own := []api.Item{include, template()}
	own[1].Items = own
	expectFault(t, origin(own...), api.ErrArg)
	expectFault(t, origin(own[1]), api.ErrArg)
	if text, err := printer.Print(api.Source{}); text != "" || err != api.ErrArg {
		t.Error(text, err)
	}
}
