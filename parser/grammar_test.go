package parser_test

import (
	"math/rand"
	"regexp"
	"slices"
	"strings"
	"sync"
	"testing"

	"estoppel/api"
	"estoppel/lexer"
	"estoppel/parser"
)

// grammar is the chapter's grammar.
const grammar = `
    source:   "contract" NAME "from" date "for" INT "days" ";" { item }
    item:     party | role | unit | weekend | holiday | span-def | sum-def | act | template | inner
    inner:    duty | ban | option | watch | include
    party:    "party" NAME ";"
    role:     "role" NAME "of" NAME ";"
    unit:     "unit" NAME ( "goods" | "money" ) [ "=" ratio NAME ] ";"
    weekend:  "weekend" day { "," day } ";"
    holiday:  "holiday" date { "," date } ";"
    span-def: "span" NAME "=" INT [ "business" ] "days" ";"
    sum-def:  "sum" NAME "=" ratio NAME ";"
    act:      "act" NAME "by" NAME ( "assigns" | "novates" ) NAME "to" NAME ";"
            | "act" NAME "by" NAME [ "moves" ratio NAME ] [ "to" NAME ] ";"
    duty:     "duty" NAME "of" NAME ":" NAME [ INT "times" ] "within" span [ "grace" span ] [ if ] [ pause ] [ value ] [ "final" ] ";"
    ban:      "ban" NAME "of" NAME ":" NAME "for" span [ if ] [ pause ] [ value ] [ "final" ] ";"
    option:   "option" NAME "of" NAME ":" NAME "within" span [ if ] [ pause ] ";"
    watch:    "watch" NAME ":" NAME "within" span [ if ] [ pause ] ";"
    template: "template" NAME "(" [ names ] ")" "{" { inner } "}"
    include:  "include" NAME "as" NAME "(" [ names ] ")" ";"
    names:    NAME { "," NAME }
    if:       "if" NAME is { "and" NAME is }
    is:       "started" | "done" | "failed" | "void"
    pause:    "paused" "by" NAME "until" NAME
    value:    "value" ( ratio NAME | NAME ) "to" NAME
    span:     INT [ "business" ] "days" | NAME
    ratio:    INT [ "/" INT ]
    date:     INT "-" INT "-" INT
    day:      "mon" | "tue" | "wed" | "thu" | "fri" | "sat" | "sun"
`

// node is a place in the grammar: the token that it waits for (a text in quotes, NAME or INT), the place behind this token, and the places that are reached without a token.
type node struct {
	waits  string
	behind int
	free   []int
	begins bool
}

// machine recognizes the texts of the grammar and their beginnings, by all places of the grammar at once. It begins at place 0; ahead are, for each place, those that are reached from it without a token and wait for one, and the end.
type machine struct {
	rules map[string][]string
	nodes []node
	end   int
	ahead [][]int
}

// words returns the machine of the grammar.
func words() *machine {
	m := &machine{rules: map[string][]string{}}
	rule := ""
	for _, word := range regexp.MustCompile(`"[^"]*"|[A-Za-z-]+:|[A-Za-z-]+|[()\[\]{}|]`).FindAllString(grammar, -1) {
		if strings.HasSuffix(word, ":") {
			rule = strings.TrimSuffix(word, ":")
		} else {
			m.rules[rule] = append(m.rules[rule], word)
		}
	}
	m.end = m.follow("source", m.add())
	for at := range m.nodes {
		var ahead []int
		for _, place := range m.reached(at) {
			if m.nodes[place].waits != "" || place == m.end {
				ahead = append(ahead, place)
			}
		}
		m.ahead = append(m.ahead, ahead)
	}
	return m
}

// add makes a place.
func (m *machine) add() int {
	m.nodes = append(m.nodes, node{})
	return len(m.nodes) - 1
}

// link makes a place reachable from another one without a token.
func (m *machine) link(from, to int) { m.nodes[from].free = append(m.nodes[from].free, to) }

// follow adds the places of a rule behind a place, and returns the one behind it.
func (m *machine) follow(rule string, from int) int {
	start := m.add()
	m.link(from, start)
	end, _ := m.choices(m.rules[rule], start)
	if strings.Contains(" party role unit weekend holiday span-def sum-def act template duty ban option watch include ", " "+rule+" ") {
		for _, place := range m.reached(start) {
			m.nodes[place].begins = true
		}
	}
	return end
}

// choices adds the places of parts between which there is a choice, and returns the one behind them and what follows them in the rule.
func (m *machine) choices(body []string, from int) (int, []string) {
	end := m.add()
	for {
		at := m.add()
		m.link(from, at)
		for len(body) > 0 && !strings.Contains(")]}|", body[0]) {
			at, body = m.part(body, at)
		}
		m.link(at, end)
		if len(body) == 0 || body[0] != "|" {
			return end, body
		}
		body = body[1:]
	}
}

// part adds the places of the first part of a rule, and returns the one behind it and the rest of the rule.
func (m *machine) part(body []string, from int) (int, []string) {
	switch first := body[0]; {
	case first == "(":
		end, rest := m.choices(body[1:], from)
		return end, rest[1:]
	case first == "[":
		end, rest := m.choices(body[1:], from)
		m.link(from, end)
		return end, rest[1:]
	case first == "{":
		again := m.add()
		m.link(from, again)
		end, rest := m.choices(body[1:], again)
		m.link(end, again)
		return again, rest[1:]
	case first == "NAME" || first == "INT" || first[0] == '"':
		behind := m.add()
		m.nodes[from].waits, m.nodes[from].behind = first, behind
		return behind, body[1:]
	}
	return m.follow(body[0], from), body[1:]
}

// reached returns a place and those that are reached from it without a token.
func (m *machine) reached(from int) []int {
	all := []int{from}
	for i := 0; i < len(all); i++ {
		for _, to := range m.nodes[all[i]].free {
			if !slices.Contains(all, to) {
				all = append(all, to)
			}
		}
	}
	return all
}

// fits reports whether a place waits for a token.
func (n node) fits(next api.Token) bool {
	switch n.waits {
	case "NAME":
		return next.Kind == api.TokName
	case "INT":
		return next.Kind == api.TokNumber
	}
	return n.waits == `"`+next.Text+`"`
}

// check returns the error of a text and its offset.
func (m *machine) check(text string) (api.Errno, int) {
	tokens, err, at := lexer.Lex(text)
	if err != api.OK {
		return err, at
	}
	places := m.ahead[0]
	items := 0
	for _, next := range tokens {
		var ahead []int
		begins := false
		for _, place := range places {
			if m.nodes[place].fits(next) {
				ahead = append(ahead, m.ahead[m.nodes[place].behind]...)
				begins = begins || m.nodes[place].begins
			}
		}
		if len(ahead) == 0 {
			return api.ErrSyntax, next.At
		}
		if begins {
			items++
		}
		if items > 600 {
			return api.ErrLimit, next.At
		}
		places = ahead
	}
	if slices.Contains(places, m.end) {
		return api.OK, 0
	}
	return api.ErrEnd, len(text)
}

// agree compares the error of a text with the one that the grammar asks for, and returns it.
func (m *machine) agree(t *testing.T, text string) api.Errno {
	t.Helper()
	want, at := m.check(text)
	tree, err, got := parser.Parse(text)
	if err != want || got != at {
		t.Errorf("%.300q: %d at %d instead of %d at %d", text, err, got, want, at)
	}
	if err != api.OK && !isZero(tree) {
		t.Errorf("%.300q: a tree with the error %d", text, err)
	}
	return want
}

// quoted are all key words and symbols of the grammar.
var quoted = sync.OnceValue(func() []string {
	var all []string
	for _, word := range regexp.MustCompile(`"[^"]*"`).FindAllString(grammar, -1) {
		all = append(all, strings.Trim(word, `"`))
	}
	slices.Sort(all)
	return slices.Compact(all)
})

// keyWords returns all key words and symbols of the grammar.
func keyWords() []string { return slices.Clone(quoted()) }

// P7.1, G1: the grammar is understood: the machine knows the chapter's examples.
func TestGrammar(t *testing.T) {
	m := words()
	for _, test := range []struct {
		text string
		err  api.Errno
		at   int
	}{
		{"contract c from 2026-1-5 for 30 days;", api.OK, 0}, {"contract", api.ErrEnd, 8}, {"contract c from 2026-1-5 for 30 days; party party;", api.OK, 0}, {"contract c for", api.ErrSyntax, 11},
		{"contract c from 1-1-1 for 9 days; duty d of a: x within 3 business days grace s final;", api.OK, 0},
	} {
		if err, at := m.check(test.text); err != test.err || at != test.at {
			t.Error(test.text, err, at)
		}
	}
	if len(keyWords()) != 58 || len(m.rules) != 26 {
		t.Error(len(keyWords()), "key words and symbols,", len(m.rules), "rules")
	}
}

// P7.1, G1: after each token of texts with all kinds of items, each key word, symbol, name and number follows.
func TestEachToken(t *testing.T) {
	m := words()
	all := append(keyWords(), "x", "a.b", "nature", "7", "0", "Contract", "DAYS", "1")
	count := map[api.Errno]int{}
	from := 0
	for _, text := range texts() {
		tokens := strings.Fields(text)
		rests := []string{"", ";", "x", "1", "}"}
		if len(tokens) > 100 {
			rests = rests[:1]
		}
		for i := from; i <= len(tokens); i++ {
			before := strings.Join(tokens[:i], " ")
			for _, next := range all {
				for _, rest := range rests {
					count[m.agree(t, strings.TrimSpace(before+" "+next+" "+rest))]++
				}
			}
		}
		// The first text has no items; the others begin with its tokens.
		from = len(strings.Fields(blanked(start)))
	}
	if count[api.OK] < 1000 || count[api.ErrSyntax] < 10000 || count[api.ErrEnd] < 10000 {
		t.Error("too few of", count)
	}
}

// P7.1, G1: each token of texts with all kinds of items is left out, repeated, replaced by others and swapped with the next one.
func TestChangedTokens(t *testing.T) {
	m := words()
	all := append(keyWords(), "x", "7")
	count := map[api.Errno]int{}
	for _, text := range texts() {
		tokens := strings.Fields(text)
		for i := range tokens {
			without := slices.Delete(slices.Clone(tokens), i, i+1)
			count[m.agree(t, strings.Join(without, " "))]++
			count[m.agree(t, strings.Join(slices.Insert(slices.Clone(tokens), i, tokens[i]), " "))]++
			for _, other := range all {
				count[m.agree(t, strings.Join(slices.Insert(slices.Clone(without), i, other), " "))]++
			}
			if i > 0 {
				count[m.agree(t, strings.Join(slices.Insert(slices.Clone(without), i-1, tokens[i]), " "))]++
			}
		}
	}
	if count[api.OK] < 1000 || count[api.ErrSyntax] < 10000 {
		t.Error("too few of", count)
	}
}

// walk returns tokens that follow each other in the grammar, from its beginning on.
func (m *machine) walk(random *rand.Rand, length int) []string {
	var tokens []string
	at := 0
	for len(tokens) < length {
		waiting := slices.DeleteFunc(slices.Clone(m.ahead[at]), func(place int) bool { return place == m.end })
		found := m.nodes[waiting[random.Intn(len(waiting))]]
		switch found.waits {
		case "NAME":
			tokens = append(tokens, someName(random))
		case "INT":
			tokens = append(tokens, someNumber(random))
		default:
			tokens = append(tokens, strings.Trim(found.waits, `"`))
		}
		at = found.behind
	}
	return tokens
}

// P1, P7.1, G1: random ways through the grammar, with and without changes.
func TestWalks(t *testing.T) {
	m := words()
	random := rand.New(rand.NewSource(1))
	all := append(keyWords(), "x", "7", "!", "7x", "# c\n", "1234567890123")
	count := map[api.Errno]int{}
	for i := range 3000 {
		length := random.Intn(80)
		if i%100 == 0 {
			length = random.Intn(2500)
		}
		tokens := m.walk(random, length)
		text, _ := lay(random, tokens)
		count[m.agree(t, text)]++
		for range random.Intn(3) {
			tokens = slices.Insert(tokens, random.Intn(len(tokens)+1), all[random.Intn(len(all))])
		}
		if random.Intn(2) == 0 {
			tokens = slices.Insert(tokens, len(tokens), ";")
		}
		count[m.agree(t, strings.Join(tokens, " "))]++
	}
	for range 2000 {
		var tokens []string
		for range random.Intn(8) {
			tokens = append(tokens, all[random.Intn(len(all))])
		}
		rest := strings.Join(tokens, " ")
		count[m.agree(t, rest)]++
		count[m.agree(t, start+rest)]++
		bytes := make([]byte, random.Intn(40))
		random.Read(bytes)
		count[m.agree(t, string(bytes))]++
		count[m.agree(t, start+string(bytes))]++
	}
	if count[api.OK] < 100 || count[api.ErrSyntax] < 1000 || count[api.ErrEnd] < 1000 || count[api.ErrChar] < 100 || count[api.ErrNumber] < 100 {
		t.Error("too few of", count)
	}
}
