package printer_test

import (
	"fmt"
	"math/rand"
	"reflect"
	"slices"
	"strings"
	"testing"

	"estoppel/api"
	"estoppel/lexer"
	"estoppel/parser"
	"estoppel/printer"
)

// P8.1: random trees have the text that a model lays out.
func TestTrees(t *testing.T) {
	kinds := map[int]int{}
	someTrees(2, 3000, func(_ *rand.Rand, tree api.Source) {
		if err := agree(t, tree); err != api.OK {
			t.Error(err)
		}
		for _, item := range tree.Items {
			kinds[item.Kind]++
			for _, inner := range item.Items {
				kinds[-inner.Kind]++
			}
		}
	})
	for kind := api.ItemParty; kind <= api.ItemInclude; kind++ {
		if kinds[kind] < 500 || kind >= api.ItemDuty && kind != api.ItemTemplate && kinds[-kind] < 300 {
			t.Error("too few of", kind, kinds)
		}
	}
}

// P8.2: parsing the text of a tree yields the tree.
func TestInverse(t *testing.T) {
	number := 0
	someTrees(3, 3000, func(_ *rand.Rand, tree api.Source) {
		text, err := printer.Print(tree)
		got, e, at := parser.Parse(text)
		if err != api.OK || e != api.OK || !same(got, tree) {
			t.Errorf("%.600q: %d, %d at %d", text, err, e, at)
		}
		number++
	})
	if number < 2000 {
		t.Error("only", number)
	}
}

// P8.3: a source text is printed, and its text, when it is parsed, again; a text is that of its tree however this was written.
func TestCanonicalForm(t *testing.T) {
	number := 0
	someTrees(4, 3000, func(random *rand.Rand, tree api.Source) {
		text := source(random, tree)
		got, err, at := parser.Parse(text)
		if len(text) > api.MaxSource || err == api.ErrLimit {
			return
		}
		if err != api.OK {
			t.Fatalf("%.600q: %d at %d", text, err, at)
		}
		first, err := printer.Print(got)
		again, _, _ := parser.Parse(first)
		second, e := printer.Print(again)
		want, _ := printer.Print(tree)
		if err != api.OK || e != api.OK || first != want || second != want {
			t.Errorf("%.600q: %.600q (%d), %.600q (%d), %.600q", text, first, err, second, e, want)
		}
		number++
	})
	if number < 2000 {
		t.Error("only", number)
	}
}

// P8.3: source texts whose canonical text exceeds a limit, which can only be that of bytes, and those whose canonical text has as many bytes as it can.
func TestCanonicalTextTooLong(t *testing.T) {
	for _, name := range []string{"aaaaa", "aaaaaa"} {
		for number := 2200; number <= 2450; number++ {
			text := start + "include t as u(" + strings.Repeat(name+",", number) + "a);"
			tree, err, _ := parser.Parse(text)
			if err != api.OK {
				if len(text) <= api.MaxSource {
					t.Error(number, err)
				}
				continue
			}
			want := strings.ReplaceAll(text, ",", ", ") + "\n"
			if len(want) > api.MaxSource {
				expectFault(t, tree, api.ErrLimit)
			} else {
				expect(t, tree, want)
			}
		}
	}
}

// P8.4: trees have the same text exactly if they are equal apart from offsets.
func TestEquality(t *testing.T) {
	texts := map[string]api.Source{}
	equal, other := 0, 0
	check := func(tree api.Source) {
		text, err := printer.Print(tree)
		if err != api.OK {
			return
		}
		if before, ok := texts[text]; !ok {
			texts[text] = clone(tree)
			other++
		} else if !same(before, tree) {
			t.Errorf("%.600q: %.600s and %.600s", text, fmt.Sprint(before), fmt.Sprint(tree))
		} else {
			equal++
		}
	}
	random := rand.New(rand.NewSource(5))
	for range 20000 {
		check(origin(someItem(random, 1+random.Intn(14))))
	}
	for _, one := range samples() {
		tree := clone(origin(one.item))
		fields(reflect.ValueOf(&tree).Elem(), func(field reflect.Value) {
			old := reflect.ValueOf(field.Interface())
			for _, value := range values(field.Type()) {
				field.Set(reflect.ValueOf(value))
				check(tree)
			}
			field.Set(old)
		})
	}
	if equal < 2000 || other < 2000 {
		t.Error("only", equal, "and", other)
	}
	whole := map[string]bool{}
	for _, tree := range texts {
		whole[fmt.Sprintf("%+v", tree)] = true
	}
	if len(whole) != len(texts) {
		t.Error(len(texts), "texts of", len(whole), "trees")
	}
}

// P8.5: the text of a tree with the items of two others consists of the text of the one and of the lines of the items of the other; offsets do not matter.
func TestLines(t *testing.T) {
	number := 0
	before := origin()
	someTrees(6, 2000, func(random *rand.Rand, tree api.Source) {
		both := joined(before, tree)
		if count(both.Items) <= api.MaxItems {
			one, _ := printer.Print(before)
			two, _ := printer.Print(tree)
			if text := one + lines(two); len(text) <= api.MaxSource && len(canonical(both)) <= api.MaxTokens {
				expect(t, both, text)
				number++
			}
		}
		text, _ := printer.Print(tree)
		before = clone(tree)
		expect(t, before, text)
		for i := range before.Items {
			before.Items[i].At = pick(random, -1, 0, 1, random.Int(), -random.Int())
			for k := range before.Items[i].Items {
				before.Items[i].Items[k].At = pick(random, -1, 0, 1, random.Int(), -random.Int())
			}
		}
		expect(t, before, text)
		if want := 1 + count(before.Items) + strings.Count(text, "}"); strings.Count(text, "\n") != want {
			t.Errorf("%.600q: %d lines", text, want)
		}
	})
	if number < 1000 {
		t.Error("only", number)
	}
}

// P8.6: all that is no token is a blank, a line feed, or a line feed and two blanks.
func TestGaps(t *testing.T) {
	someTrees(7, 2000, func(_ *rand.Rand, tree api.Source) {
		text, _ := printer.Print(tree)
		tokens, _, _ := lexer.Lex(text)
		end := 0
		for i, next := range tokens {
			if gap := text[end:next.At]; i == 0 && gap != "" || !slices.Contains([]string{"", " ", "\n", "\n  "}, gap) {
				t.Errorf("%q in %.600q", gap, text)
			}
			end = next.At + len(next.Text)
		}
		if text[end:] != "\n" {
			t.Errorf("%.600q ends with %q", text, text[end:])
		}
	})
}

// P8.1, P3: equal trees have equal results, whatever is asked in between, and are not changed.
func TestAgain(t *testing.T) {
	type result struct {
		tree api.Source
		text string
		err  api.Errno
	}
	var all []result
	someTrees(8, 500, func(random *rand.Rand, tree api.Source) {
		kept := clone(tree)
		text, err := printer.Print(tree)
		if !same(kept, tree) {
			t.Errorf("%.600s has changed", fmt.Sprint(kept))
		}
		all = append(all, result{kept, text, err})
		if len(tree.Items) > 0 {
			worse := clone(tree)
			worse.Items[random.Intn(len(worse.Items))].Kind = 0
			text, err := printer.Print(worse)
			all = append(all, result{worse, text, err})
		}
	})
	for _, one := range slices.Backward(all) {
		if text, err := printer.Print(clone(one.tree)); text != one.text || err != one.err {
			t.Errorf("%.600q and %.600q: %d and %d", text, one.text, err, one.err)
		}
	}
}

// P3: trees are printed at the same time as alone, and a tree keeps its offsets.
func TestTogether(t *testing.T) {
	var trees []api.Source
	someTrees(9, 200, func(_ *rand.Rand, tree api.Source) { trees = append(trees, tree) })
	results := make(chan string, len(trees))
	for _, tree := range trees {
		go func() {
			text, _ := printer.Print(tree)
			results <- text
		}()
	}
	var got, want []string
	for _, tree := range trees {
		got = append(got, <-results)
		text, _ := printer.Print(tree)
		want = append(want, text)
	}
	slices.Sort(got)
	slices.Sort(want)
	if !slices.Equal(got, want) {
		t.Error("other texts")
	}
	items := many(3, api.Item{Kind: api.ItemTemplate, Name: "t", At: 7, Items: many(2, api.Item{Kind: api.ItemInclude, Name: "i", Of: "t", At: 9})})
	printer.Print(origin(items...))
	if items[0].At != 7 || items[2].Items[1].At != 9 || items[1].Kind != api.ItemTemplate {
		t.Error(items)
	}
}
