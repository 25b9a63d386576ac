package lexer_test

import (
	"math/rand"
	"regexp"
	"slices"
	"strconv"
	"strings"
	"testing"

	"estoppel/api"
)

// patterns are the chapter's words as regular expressions, for the beginning of a text.
type patterns struct {
	gap, name, number, joined, symbol *regexp.Regexp
}

// words returns the chapter's words.
func words() patterns {
	return patterns{
		regexp.MustCompile(`^([ \t\n]|#[^\n]*(\n|$))*`),
		regexp.MustCompile(`^[A-Za-z](\.?[A-Za-z0-9_])*`),
		regexp.MustCompile(`^[0-9]+`),
		regexp.MustCompile(`^[0-9]+[A-Za-z_]`),
		regexp.MustCompile(`^[;:,=/\-(){}]`),
	}
}

// first returns the token at the beginning of a text, which is at an offset, or its error.
func (p patterns) first(text string, at int) (api.Token, api.Errno) {
	if found := p.name.FindString(text); found != "" {
		if len(found) > 24 {
			return api.Token{}, api.ErrLimit
		}
		return name(found, at), api.OK
	}
	if found := p.number.FindString(text); found != "" {
		if len(found) > 12 || p.joined.MatchString(text) {
			return api.Token{}, api.ErrNumber
		}
		n, _ := strconv.ParseInt(found, 10, 64)
		return number(found, int(n), at), api.OK
	}
	if found := p.symbol.FindString(text); found != "" {
		return symbol(found, at), api.OK
	}
	return api.Token{}, api.ErrChar
}

// lex returns the result that the chapter asks for.
func (p patterns) lex(text string) result {
	if len(text) > 20000 {
		return fault(api.ErrLimit, -1)
	}
	var all []api.Token
	at := len(p.gap.FindString(text))
	for at < len(text) {
		next, err := p.first(text[at:], at)
		if err == api.OK && len(all) == 5000 {
			err = api.ErrLimit
		}
		if err != api.OK {
			return fault(err, at)
		}
		all = append(all, next)
		at += len(next.Text)
		at += len(p.gap.FindString(text[at:]))
	}
	return tokens(all...)
}

// every yields all texts of up to a number of pieces.
func every(pieces []string, most int, yield func(text string)) {
	var extend func(text string, left int)
	extend = func(text string, left int) {
		yield(text)
		if left == 0 {
			return
		}
		for _, piece := range pieces {
			extend(text+piece, left-1)
		}
	}
	extend("", most)
}

// pick returns one of several texts.
func pick(random *rand.Rand, all ...string) string { return all[random.Intn(len(all))] }

// someName returns a name.
func someName(random *rand.Rand) string {
	text := pick(random, "a", "Z", "duty", "of", "x9", "contract")
	for random.Intn(3) > 0 && len(text) < 20 {
		text += pick(random, "b", "_", "0", ".c", "._", ".7", "Q.", "y")
	}
	return strings.TrimRight(text, ".")
}

// someNumber returns a number of up to 12 digits.
func someNumber(random *rand.Rand) string {
	text := ""
	for length := 1 + random.Intn(12); len(text) < length; {
		text += pick(random, "0", "1", "5", "9", "37")
	}
	return text[:min(len(text), 12)]
}

// someToken returns a token.
func someToken(random *rand.Rand) string {
	switch random.Intn(4) {
	case 0:
		return someNumber(random)
	case 1:
		i := random.Intn(len(symbols))
		return symbols[i : i+1]
	}
	return someName(random)
}

// someGap returns a gap that separates tokens.
func someGap(random *rand.Rand) string {
	text := ""
	for range 1 + random.Intn(3) {
		text += pick(random, " ", " ", "\t", "\n", "#\n", "# a 5;\n", "##\n", "# 7x .!\xff\n", " # _\t\n")
	}
	return text
}

// endGap returns a gap that ends with a line feed.
func endGap(random *rand.Rand) string {
	return pick(random, "", "", " ", "\t", "#", "# x", " #!#", "\n\n", "#\r\n \t#\xff 7x") + "\n"
}

// someFault returns a piece with an error.
func someFault(random *rand.Rand) string {
	return pick(random, "!", ".", "_", "a.", "a..b", "5.6", "7x", "0_", "1234567890123", strings.Repeat("y", 25), "\r", "\xff", "\xc3\xa9", "\x00", "\"")
}

// someText returns a text of a number of pieces, of which some number in a hundred are faults.
func someText(random *rand.Rand, pieces, faults int) string {
	var text strings.Builder
	if random.Intn(2) == 0 {
		text.WriteString(someGap(random))
	}
	for range pieces {
		piece := someToken(random)
		if random.Intn(100) < faults {
			piece = someFault(random)
		}
		text.WriteString(piece)
		if random.Intn(8) > 0 || !strings.Contains(symbols, piece) {
			text.WriteString(someGap(random))
		}
	}
	return text.String() + pick(random, "", "a", "7", "# end", "#", ";", " ", "x.y# 7x")
}

// someTexts calls a function with many texts, short ones and long ones, of which some number in a hundred of the pieces are faults.
func someTexts(seed int64, number, faults int, use func(random *rand.Rand, text string)) {
	random := rand.New(rand.NewSource(seed))
	for i := range number {
		pieces := random.Intn(12)
		if i%50 == 0 {
			pieces = random.Intn(2500)
		}
		use(random, someText(random, pieces, faults))
	}
}

// P6.1, F1: all short texts of bytes of all sorts.
func TestAllShortTexts(t *testing.T) {
	p := words()
	count := map[api.Errno]int{}
	check := func(text string) {
		want := p.lex(text)
		expect(t, text, want)
		count[want.err]++
	}
	every([]string{"a", "0", "_", ".", ";", "#", "\n"}, 6, check)
	every([]string{"Z", "z", "9", "_", ".", "-", "{", " ", "\t", "\n", "#", "!", "\xc3", "\r"}, 4, check)
	every([]string{"a", "yyyyyyyyyyy", "00000", "_", ".", " ", "="}, 5, check)
	if count[api.OK] < 1000 || count[api.ErrChar] < 1000 || count[api.ErrNumber] < 1000 || count[api.ErrLimit] < 500 {
		t.Error("too few of", count)
	}
}

// P6.1, F1: all pairs of bytes, alone and after a name, a number, a symbol and the beginning of a comment.
func TestAllPairs(t *testing.T) {
	p := words()
	for i := range 1 << 16 {
		pair := string([]byte{byte(i >> 8), byte(i)})
		for _, before := range []string{"", "a", "7", ";", "#"} {
			if got := lex(before + pair); !same(got, p.lex(before+pair)) {
				t.Errorf("%q: %v", before+pair, got)
			}
		}
	}
}

// P1, P6.1, F1: random texts, of tokens and of any bytes.
func TestSomeTexts(t *testing.T) {
	p := words()
	count := map[api.Errno]int{}
	check := func(random *rand.Rand, text string) {
		want := p.lex(text)
		expect(t, text, want)
		count[want.err]++
		bytes := []byte(text)
		for range random.Intn(4) {
			if len(bytes) > 0 {
				bytes[random.Intn(len(bytes))] = byte(random.Intn(256))
			}
		}
		expect(t, string(bytes), p.lex(string(bytes)))
	}
	someTexts(1, 4000, 5, check)
	someTexts(2, 1000, 0, check)
	random := rand.New(rand.NewSource(3))
	for range 2000 {
		bytes := make([]byte, random.Intn(40))
		random.Read(bytes)
		expect(t, string(bytes), p.lex(string(bytes)))
	}
	if count[api.OK] < 1000 || count[api.ErrChar] < 100 || count[api.ErrNumber] < 100 || count[api.ErrLimit] < 30 {
		t.Error("too few of", count)
	}
}

// P6.2.
func TestTexts(t *testing.T) {
	between := regexp.MustCompile(`^([ \t\n]|#[^\n]*\n)*$`)
	last := regexp.MustCompile(`^([ \t\n]|#[^\n]*\n)*(#[^\n]*)?$`)
	count := 0
	someTexts(4, 6000, 0, func(_ *rand.Rand, text string) {
		got := lex(text)
		if got.err != api.OK {
			return
		}
		end := 0
		for _, next := range got.tokens {
			if next.Text == "" || next.At < end || next.At+len(next.Text) > len(text) || text[next.At:next.At+len(next.Text)] != next.Text {
				t.Fatalf("%q: %v", text, next)
			}
			if !between.MatchString(text[end:next.At]) {
				t.Errorf("%q: no gap in %q", text, text[end:next.At])
			}
			end = next.At + len(next.Text)
			count++
		}
		if !last.MatchString(text[end:]) || got.at != 0 {
			t.Errorf("%q: no gap in %q", text, text[end:])
		}
	})
	if count < 20000 {
		t.Error("only", count, "tokens")
	}
}

// joined returns the texts of tokens, separated by one blank each.
func joined(all []api.Token) string {
	var texts []string
	for _, next := range all {
		texts = append(texts, next.Text)
	}
	return strings.Join(texts, " ")
}

// moved returns tokens with offsets that are increased by a number.
func moved(all []api.Token, by int) []api.Token {
	all = slices.Clone(all)
	for i := range all {
		all[i].At += by
	}
	return all
}

// unplaced returns tokens without offsets.
func unplaced(all []api.Token) []api.Token {
	all = slices.Clone(all)
	for i := range all {
		all[i].At = 0
	}
	return all
}

// P6.3.
func TestJoined(t *testing.T) {
	count := 0
	check := func(text string) {
		first := lex(text)
		again := joined(first.tokens)
		if first.err != api.OK || len(again) > maxSource {
			return
		}
		second := lex(again)
		if second.err != api.OK || !slices.Equal(unplaced(first.tokens), unplaced(second.tokens)) {
			t.Errorf("%q and %q: %v and %v", text, again, first, second)
		}
		count++
	}
	someTexts(5, 3000, 0, func(_ *rand.Rand, text string) { check(text) })
	check(strings.Repeat(";", 5000))
	check(strings.Repeat("y7.z\n", 3000))
	check(strings.Repeat("007-", 2400))
	if count < 2500 {
		t.Error("only", count, "texts")
	}
}

// P6.4: the tokens of two texts with a line feed between them; so it is with the errors.
func TestParts(t *testing.T) {
	count := map[api.Errno]int{}
	check := func(first, second string) {
		text := first + "\n" + second
		one, two := lex(first), lex(second)
		if len(text) > maxSource || len(one.tokens)+len(two.tokens) > 5000 {
			return
		}
		want := tokens(append(slices.Clone(one.tokens), moved(two.tokens, len(first)+1)...)...)
		switch {
		case one.err != api.OK:
			want = one
		case two.err != api.OK:
			want = fault(two.err, two.at+len(first)+1)
		}
		expect(t, text, want)
		count[want.err]++
	}
	before := ""
	someTexts(6, 4000, 3, func(_ *rand.Rand, text string) {
		check(before, text)
		before = text
	})
	pieces := []string{"a", "7", "_", ".", "#", "-", " "}
	every(pieces, 2, func(first string) {
		every(pieces, 2, func(second string) { check(first, second) })
	})
	check(strings.Repeat(";", 2500), strings.Repeat(":", 2500))
	check("# "+strings.Repeat("c", 9997), strings.Repeat(" ", 9998)+"xx")
	if count[api.OK] < 1000 || count[api.ErrChar] < 100 || count[api.ErrNumber] < 100 || count[api.ErrLimit] < 30 {
		t.Error("too few of", count)
	}
}

// P6.5: the text before an error has none, and of what follows a byte that begins no token only one byte matters.
func TestBeginnings(t *testing.T) {
	p := words()
	count := map[api.Errno]int{}
	check := func(text string) {
		got := lex(text)
		if got.err == api.OK || got.at == -1 {
			return
		}
		count[got.err]++
		if before := lex(text[:got.at]); before.err != api.OK || before.at != 0 {
			t.Errorf("%q: %v", text[:got.at], before)
		}
		if got.err != api.ErrChar {
			return
		}
		kept := text[:min(got.at+2, len(text))]
		for _, rest := range []string{"", "a", "7x", "_", ".", " ", "\n", "#", ";", "!", "\xff", strings.Repeat("y", 25), strings.Repeat("7", 13), strings.Repeat(";", 5001), text} {
			if len(kept+rest) <= maxSource && (len(text) > got.at+1 || rest == "") {
				expect(t, kept+rest, got)
			}
		}
	}
	someTexts(7, 2000, 20, func(_ *rand.Rand, text string) { check(text) })
	every([]string{"a", "7", "_", ".", "#", "-", " ", "!"}, 4, check)
	for _, text := range []string{strings.Repeat(";", 5001), strings.Repeat("a ", 5000) + "b.c", strings.Repeat(" ", 19999) + "!"} {
		if !same(lex(text), p.lex(text)) {
			t.Error(len(text))
		}
		check(text)
	}
	if count[api.ErrChar] < 1000 || count[api.ErrNumber] < 200 || count[api.ErrLimit] < 50 {
		t.Error("too few of", count)
	}
}

// P6.6: further gaps at the beginning, at the end, and between a token and the gap that follows it.
func TestFurtherGaps(t *testing.T) {
	count := 0
	check := func(random *rand.Rand, text string) {
		got := lex(text)
		gap := endGap(random)
		if len(text)+len(gap) > maxSource {
			return
		}
		switch {
		case got.err != api.OK:
			expect(t, gap+text, fault(got.err, got.at+len(gap)))
			expect(t, text+gap, got)
			return
		case len(got.tokens) > 0:
			i := random.Intn(len(got.tokens))
			end := got.tokens[i].At + len(got.tokens[i].Text)
			if end == len(text) || strings.Contains(" \t\n#", text[end:end+1]) {
				expect(t, text[:end]+gap+text[end:], tokens(append(slices.Clone(got.tokens[:i+1]), moved(got.tokens[i+1:], len(gap))...)...))
				count++
			}
		}
		expect(t, gap+text, tokens(moved(got.tokens, len(gap))...))
		expect(t, text+gap, got)
	}
	someTexts(8, 6000, 1, check)
	if count < 2000 {
		t.Error("only", count, "gaps")
	}
}

// P6.7: decimal texts of numbers, also with leading zeros, with gaps or symbols between them.
func TestDecimals(t *testing.T) {
	numbers := []int{0, 1, 9, 10, 11, 99, 100, 101, 999, 1000, 65535, 65536, 2147483646, 2147483647, 2147483648, 4294967295, 4294967296, 4294967297, 99999999999, 100000000000, 999999999998, 999999999999}
	for n := range 3000 {
		numbers = append(numbers, n)
	}
	random := rand.New(rand.NewSource(9))
	for range 20000 {
		n := random.Intn(1000000000000)
		for range random.Intn(12) {
			n /= 10
		}
		numbers = append(numbers, n)
	}
	between := []string{" ", "\n", "\t", "#\n", "# 5\n", ";", ":", ",", "=", "/", "-", "(", ")", "{", "}", " - ", "/ ", "# x\n;"}
	for len(numbers) > 0 {
		some := numbers[:min(len(numbers), 1+random.Intn(1200))]
		numbers = numbers[len(some):]
		text := pick(random, "", "-", "# 7x\n", " ")
		for _, n := range some {
			digits := strconv.Itoa(n)
			if random.Intn(4) == 0 {
				digits = strings.Repeat("0", random.Intn(13-len(digits))) + digits
			}
			text += digits + pick(random, between...)
		}
		var values []int
		got := lex(text)
		for _, next := range got.tokens {
			if next.Kind == api.TokNumber {
				values = append(values, next.N)
			} else if next.Kind != api.TokSymbol || next.N != 0 {
				t.Error(next)
			}
		}
		if got.err != api.OK || !slices.Equal(values, some) {
			t.Errorf("%.200q: %v, %d", text, got.err, got.at)
		}
	}
}

// P3: equal texts have equal results, in whatever order they are asked for.
func TestEqualTexts(t *testing.T) {
	var texts []string
	var results []result
	someTexts(10, 1000, 3, func(_ *rand.Rand, text string) {
		texts = append(texts, text)
		results = append(results, lex(text))
	})
	for i, text := range slices.Backward(texts) {
		expect(t, strings.Clone(text), results[i])
	}
}
