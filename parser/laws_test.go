package parser_test

import (
	"math/rand"
	"regexp"
	"slices"
	"strings"
	"testing"

	"estoppel/api"
	"estoppel/lexer"
	"estoppel/parser"
)

// P7.1, G1: random trees are those of their texts.
func TestTrees(t *testing.T) {
	kinds := map[int]int{}
	someTrees(1, 4000, func(_ *rand.Rand, text string, tree api.Source) {
		if tokens, err, _ := lexer.Lex(text); err != api.OK {
			t.Fatalf("%.200q: %d tokens, %d", text, len(tokens), err)
		}
		expect(t, text, tree)
		for _, item := range tree.Items {
			kinds[item.Kind]++
			for _, inner := range item.Items {
				kinds[-inner.Kind]++
			}
		}
	})
	for kind := api.ItemParty; kind <= api.ItemInclude; kind++ {
		if kinds[kind] < 500 || kind >= api.ItemDuty && kind != api.ItemTemplate && kinds[-kind] < 100 {
			t.Error("too few of", kind, kinds)
		}
	}
}

// changed returns a text with a few changes of its bytes and tokens, or only its beginning.
func changed(random *rand.Rand, text string) string {
	if random.Intn(8) == 0 {
		return text[:random.Intn(len(text))]
	}
	for range 1 + random.Intn(2) {
		at := random.Intn(len(text) + 1)
		to := min(len(text), at+random.Intn(4))
		text = text[:at] + pick(random, "", " ", ";", " x ", " 7 ", "party", " { ", "-", ",", " to ", " days ", "(", "}", " if ") + text[to:]
	}
	return text
}

// someFaults calls a function with many texts that have errors of this layer, and these.
func someFaults(seed int64, number int, use func(random *rand.Rand, text string, err api.Errno, at int)) {
	someTrees(seed, number, func(random *rand.Rand, text string, _ api.Source) {
		text = changed(random, text)
		if _, lexical, _ := lexer.Lex(text); lexical != api.OK {
			return
		}
		if _, err, at := parser.Parse(text); err != api.OK {
			use(random, text, err, at)
		}
	})
}

// P7.1, G1: random texts with faults have the errors of the grammar.
func TestFaults(t *testing.T) {
	m := words()
	count := map[api.Errno]int{}
	someFaults(2, 6000, func(_ *rand.Rand, text string, _ api.Errno, _ int) { count[m.agree(t, text)]++ })
	if count[api.ErrSyntax] < 1000 || count[api.ErrEnd] < 300 {
		t.Error("too few of", count)
	}
}

// P7.2: the tree depends on the tokens only, except for the offsets; an error is at the same token.
func TestTokens(t *testing.T) {
	tokens := func(text string) (all []int) {
		found, _, _ := lexer.Lex(text)
		for _, next := range found {
			all = append(all, next.At)
		}
		return append(all, len(text))
	}
	trees, faults := 0, 0
	someTrees(3, 2000, func(random *rand.Rand, text string, tree api.Source) {
		if random.Intn(2) == 0 {
			text = changed(random, text)
		}
		again := blanked(text)
		if _, lexical, _ := lexer.Lex(text); lexical != api.OK || len(again) > api.MaxSource {
			return
		}
		one, err, at := parser.Parse(text)
		two, other, place := parser.Parse(again)
		if err != other || !same(unplaced(one), unplaced(two)) {
			t.Errorf("%.300q and %.300q: %d and %d", text, again, err, other)
		}
		if err == api.OK {
			trees++
			return
		}
		faults++
		first, second := tokens(text), tokens(again)
		i := slices.Index(first, at)
		if err == api.ErrEnd {
			i = len(first) - 1
		}
		if i < 0 || first[i] != at || second[i] != place {
			t.Errorf("%.300q and %.300q: %d and %d", text, again, at, place)
		}
	})
	if trees < 500 || faults < 300 {
		t.Error("only", trees, "trees and", faults, "faults")
	}
}

// P7.3: the items of a second text follow those of a first one.
func TestJoining(t *testing.T) {
	number, large := 0, 0
	var before api.Source
	var first string
	check := func(text string, tree api.Source) {
		from := strings.Index(text, ";") + 1
		if len(tree.Items) > 0 {
			from = tree.Items[0].At
		}
		joined := first + "\n" + text[from:]
		if _, lexical, _ := lexer.Lex(joined); first != "" && lexical == api.OK && len(tree.Items) > 0 {
			want := before
			want.Items = slices.Concat(before.Items, moved(tree.Items, func(at int) int { return at - from + len(first) + 1 }))
			if count(want.Items) > 600 {
				expectFault(t, joined, api.ErrLimit, offset(want.Items, 600))
				large++
			} else {
				expect(t, joined, want)
				number++
			}
		}
		first, before = text, tree
	}
	someTrees(4, 1500, func(_ *rand.Rand, text string, tree api.Source) { check(text, tree) })
	for _, size := range []int{300, 300, 301, 300, 599, 2, 599, 1, 600, 1, 599} {
		text := many(size, "party p;")
		tree, _, _ := parser.Parse(text)
		check(text, tree)
	}
	if number < 700 || large < 5 {
		t.Error("only", number, "and", large)
	}
}

// offset returns the offset of the item with a number, counted also within templates.
func offset(items []api.Item, number int) int {
	var all []int
	for _, item := range items {
		all = append(all, item.At)
		for _, inner := range item.Items {
			all = append(all, inner.At)
		}
	}
	return all[number]
}

// P7.4: the text before an ErrSyntax is the beginning of a source text, and what follows its token does not matter.
func TestFirstError(t *testing.T) {
	number := 0
	someFaults(5, 2000, func(random *rand.Rand, text string, err api.Errno, at int) {
		if err != api.ErrSyntax {
			return
		}
		number++
		if _, before, place := parser.Parse(text[:at]); before != api.OK && (before != api.ErrEnd || place != at) {
			t.Errorf("%.300q: %d at %d", text[:at], before, place)
		}
		tokens, _, _ := lexer.Lex(text[at:])
		kept := text[:at+len(tokens[0].Text)] + " "
		other, _ := write(random, someTree(random, 3))
		for _, rest := range []string{"", ";", "x", "7", "}", ") {", "# c", "party p;", "days", other, strings.Repeat("party p;", 650)} {
			if _, lexical, _ := lexer.Lex(kept + rest); lexical == api.OK {
				expectFault(t, kept+rest, api.ErrSyntax, at)
			}
		}
		expectFault(t, kept+"7x", api.ErrNumber, len(kept))
	})
	if number < 500 {
		t.Error("only", number)
	}
}

// P7.5: a source of one party, role, act and duty has the tree that its parts say, for key words and other names.
func TestKeyWordsAsNames(t *testing.T) {
	names := append(nameWords(), "a", "Q9", "a.b", "z_.1._", "abcdefghijklmnopqrstuvwx", "nature", "Contract", "x__", "A.B.C.D.E.F.G.H.I.J.K.L2")
	check := func(n func(i int) string) {
		doer := n(5)
		if doer == "nature" {
			doer = ""
		}
		for _, word := range []int{api.ActDo, api.ActAssign, api.ActNovate} {
			act := api.Item{Kind: api.ItemAct, Name: n(4), Word: word, Of: doer, To: n(6)}
			if word != api.ActDo {
				act.Give = n(7)
			}
			text, tree := write(nil, api.Source{
				Name: n(0), From: api.Civil{Year: 2026, Month: 1, Day: 5}, Days: 30,
				Items: []api.Item{
					{Kind: api.ItemParty, Name: n(1)}, {Kind: api.ItemRole, Name: n(2), Of: n(3)}, act,
					{
						Kind: api.ItemDuty, Name: n(8), Of: n(9), Act: n(10), Times: 2, Within: named(n(11)), Grace: named(n(12)), Conds: []api.Named{{Name: n(13), Is: api.IsDone}, {Name: n(14), Is: api.IsVoid}},
						By: n(15), Until: n(16), Sum: n(17), To: n(18), Final: true,
					},
				},
			})
			expect(t, text, tree)
		}
	}
	for i, name := range names {
		check(func(int) string { return name })
		check(func(k int) string { return names[(i+k)%len(names)] })
		for place := range 19 {
			check(func(k int) string { return map[bool]string{true: name, false: "x"}[k == place] })
		}
	}
	random := rand.New(rand.NewSource(6))
	for range 2000 {
		var some []string
		for range 19 {
			some = append(some, anyName(random))
		}
		check(func(i int) string { return some[i] })
	}
}

// anyName returns any name of layer 6.
func anyName(random *rand.Rand) string {
	if random.Intn(3) == 0 {
		return pick(random, nameWords()...)
	}
	text := pick(random, "a", "Z", "duty", "of", "x9", "contract")
	for random.Intn(3) > 0 && len(text) < 20 {
		text += pick(random, "b", "_", "0", ".c", "._", ".7", "Q", "y")
	}
	return text
}

// P7.6: items are at their key words, in increasing order, and those of a template are before the next item.
func TestOffsets(t *testing.T) {
	word := regexp.MustCompile(`^[a-z]+`)
	names := map[int]string{
		api.ItemParty: "party", api.ItemRole: "role", api.ItemUnit: "unit", api.ItemWeekend: "weekend", api.ItemHoliday: "holiday", api.ItemSpan: "span", api.ItemSum: "sum", api.ItemAct: "act",
		api.ItemDuty: "duty", api.ItemBan: "ban", api.ItemOption: "option", api.ItemWatch: "watch", api.ItemTemplate: "template", api.ItemInclude: "include",
	}
	number := 0
	someTrees(7, 2000, func(_ *rand.Rand, text string, _ api.Source) {
		tree, _, _ := parser.Parse(text)
		last := 0
		check := func(item api.Item) {
			if item.At <= last || word.FindString(text[item.At:]) != names[item.Kind] {
				t.Errorf("%.300q: %d after %d", text, item.At, last)
			}
			last = item.At
			number++
		}
		for _, item := range tree.Items {
			check(item)
			for _, inner := range item.Items {
				check(inner)
			}
		}
	})
	if number < 5000 {
		t.Error("only", number, "items")
	}
}

// P7.7: the text before an item that is not within a template has the tree with the items before it.
func TestBeginnings(t *testing.T) {
	number := 0
	someTrees(8, 1000, func(_ *rand.Rand, text string, tree api.Source) {
		for i, item := range tree.Items {
			want := tree
			want.Items = tree.Items[:i]
			expect(t, text[:item.At], want)
			for _, inner := range item.Items {
				expectFault(t, text[:inner.At], api.ErrEnd, inner.At)
			}
			number++
		}
	})
	if number < 2000 {
		t.Error("only", number, "items")
	}
}

// P3: equal texts have equal results, in whatever order they are asked for.
func TestEqualTexts(t *testing.T) {
	type result struct {
		text string
		tree api.Source
		err  api.Errno
		at   int
	}
	var all []result
	someTrees(9, 500, func(random *rand.Rand, text string, _ api.Source) {
		for _, text := range []string{text, changed(random, text)} {
			tree, err, at := parser.Parse(text)
			all = append(all, result{text, tree, err, at})
		}
	})
	for _, one := range slices.Backward(all) {
		if tree, err, at := parser.Parse(strings.Clone(one.text)); err != one.err || at != one.at || !same(tree, one.tree) {
			t.Errorf("%.300q: %d at %d", one.text, err, at)
		}
	}
}
