package lexer_test

import (
	"slices"
	"strings"
	"testing"

	"estoppel/api"
	"estoppel/lexer"
)

const (
	letters = "abcdefghijklmnopqrstuvwxyzABCDEFGHIJKLMNOPQRSTUVWXYZ"
	digits  = "0123456789"
	symbols = ";:,=/-(){}"
)

// result is what Lex returns.
type result struct {
	tokens []api.Token
	err    api.Errno
	at     int
}

// lex returns the result for a text.
func lex(text string) result {
	tokens, err, at := lexer.Lex(text)
	return result{tokens, err, at}
}

// tokens returns the result of a text that has tokens.
func tokens(all ...api.Token) result { return result{all, api.OK, 0} }

// fault returns the result of a text that has an error.
func fault(err api.Errno, at int) result { return result{nil, err, at} }

// same reports whether two results are equal.
func same(a, b result) bool {
	return slices.Equal(a.tokens, b.tokens) && a.err == b.err && a.at == b.at
}

// expect compares the result for a text with another one.
func expect(t *testing.T, text string, want result) {
	t.Helper()
	if got := lex(text); !same(got, want) {
		t.Errorf("%.60q of %d bytes: %.300v instead of %.300v", text, len(text), got, want)
	}
}

// name returns a name at an offset.
func name(text string, at int) api.Token { return api.Token{Kind: api.TokName, Text: text, At: at} }

// number returns a number at an offset.
func number(text string, n, at int) api.Token {
	return api.Token{Kind: api.TokNumber, Text: text, N: n, At: at}
}

// symbol returns a symbol at an offset.
func symbol(text string, at int) api.Token {
	return api.Token{Kind: api.TokSymbol, Text: text, At: at}
}

// P6.1, F1: the chapter's examples.
func TestExamples(t *testing.T) {
	expect(t, "duty a.b of x:", tokens(name("duty", 0), name("a.b", 5), name("of", 9), name("x", 12), symbol(":", 13)))
	expect(t, "a.", fault(api.ErrChar, 1))
	expect(t, "12 # 3", tokens(number("12", 12, 0)))
	expect(t, "7x", fault(api.ErrNumber, 0))
	expect(t, "2026-11-16", tokens(number("2026", 2026, 0), symbol("-", 4), number("11", 11, 5), symbol("-", 7), number("16", 16, 8)))
}

// P6.1, F1: the constants of the kinds.
func TestKinds(t *testing.T) {
	got := lex("a 5;")
	if len(got.tokens) != 3 || got.tokens[0].Kind != 1 || got.tokens[1].Kind != 2 || got.tokens[2].Kind != 3 {
		t.Error(got)
	}
}

// P6.1, F1: a line of a contract with tokens of all kinds and comments.
func TestContract(t *testing.T) {
	expect(t, "duty pay_2 of buyer: pay 12 times\n\twithin 30 days # business\nvalue 7/2 eur;", tokens(
		name("duty", 0), name("pay_2", 5), name("of", 11), name("buyer", 14), symbol(":", 19), name("pay", 21), number("12", 12, 25), name("times", 28),
		name("within", 35), number("30", 30, 42), name("days", 45), name("value", 61), number("7", 7, 67), symbol("/", 68), number("2", 2, 69), name("eur", 71), symbol(";", 74),
	))
	expect(t, "template t(a,b){include u as p.q(a);}", tokens(
		name("template", 0), name("t", 9), symbol("(", 10), name("a", 11), symbol(",", 12), name("b", 13), symbol(")", 14), symbol("{", 15),
		name("include", 16), name("u", 24), name("as", 26), name("p.q", 29), symbol("(", 32), name("a", 33), symbol(")", 34), symbol(";", 35), symbol("}", 36),
	))
	expect(t, "unit kg goods=1/1000 t;", tokens(
		name("unit", 0), name("kg", 5), name("goods", 8), symbol("=", 13), number("1", 1, 14), symbol("/", 15), number("1000", 1000, 16), name("t", 21), symbol(";", 22),
	))
}

// P6.1, F1: names end before the first byte that is not in them.
func TestNames(t *testing.T) {
	for _, text := range []string{
		"a", "Z", "z9", "A0", "a_", "a__", "a_1_", "a1b2", "Contract", "a.b", "a.B.c", "a.1", "a.1.2", "a._", "a._.b", "a_.b", "a_._9.Z", "a.__", "a.00", "x9.9x", "nature", "not_a.Key_Word9",
	} {
		expect(t, text, tokens(name(text, 0)))
		expect(t, "\n "+text+" \t", tokens(name(text, 2)))
		expect(t, text+";"+text, tokens(name(text, 0), symbol(";", len(text)), name(text, len(text)+1)))
		expect(t, "-"+text+"#.x\n"+text, tokens(symbol("-", 0), name(text, 1), name(text, len(text)+5)))
		expect(t, text+".", fault(api.ErrChar, len(text)))
		expect(t, text+". b", fault(api.ErrChar, len(text)))
		expect(t, text+".b", tokens(name(text+".b", 0)))
	}
	for i := range letters {
		expect(t, letters[i:i+1], tokens(name(letters[i:i+1], 0)))
		expect(t, "x"+letters[i:i+1]+"."+letters[i:i+1], tokens(name("x"+letters[i:i+1]+"."+letters[i:i+1], 0)))
	}
	for i := range digits {
		expect(t, "x"+digits[i:i+1]+"."+digits[i:i+1], tokens(name("x"+digits[i:i+1]+"."+digits[i:i+1], 0)))
	}
}

// P6.1, F1: a dot belongs to a name only before a letter, a digit or an underscore.
func TestDots(t *testing.T) {
	for _, test := range []struct {
		text string
		want result
	}{
		{".", fault(api.ErrChar, 0)}, {"..", fault(api.ErrChar, 0)}, {".a", fault(api.ErrChar, 0)}, {"._", fault(api.ErrChar, 0)}, {".5", fault(api.ErrChar, 0)},
		{"a.", fault(api.ErrChar, 1)}, {"a..", fault(api.ErrChar, 1)}, {"a..b", fault(api.ErrChar, 1)}, {"a...b", fault(api.ErrChar, 1)}, {"a.b..c", fault(api.ErrChar, 3)}, {"a.b.", fault(api.ErrChar, 3)},
		{"a. b", fault(api.ErrChar, 1)}, {"a .b", fault(api.ErrChar, 2)}, {"a.\n", fault(api.ErrChar, 1)}, {"a.\tb", fault(api.ErrChar, 1)}, {"a.#b", fault(api.ErrChar, 1)}, {"a#.b", tokens(name("a", 0))},
		{"a.;", fault(api.ErrChar, 1)}, {"a;.b", fault(api.ErrChar, 2)}, {"a.-5", fault(api.ErrChar, 1)}, {"a.(b)", fault(api.ErrChar, 1)}, {"a.\xc3\xa9", fault(api.ErrChar, 1)}, {"a.!", fault(api.ErrChar, 1)},
		{"5.", fault(api.ErrChar, 1)}, {"5.6", fault(api.ErrChar, 1)}, {"5.a", fault(api.ErrChar, 1)}, {"5._", fault(api.ErrChar, 1)}, {"a 5.6", fault(api.ErrChar, 3)}, {"a.5.6", tokens(name("a.5.6", 0))},
		{"a.5", tokens(name("a.5", 0))}, {"a._", tokens(name("a._", 0))}, {"a._._", tokens(name("a._._", 0))}, {"a.b.c.d", tokens(name("a.b.c.d", 0))}, {"a.5x", tokens(name("a.5x", 0))},
		{"a.1234567890123", tokens(name("a.1234567890123", 0))},
	} {
		expect(t, test.text, test.want)
	}
}

// P6.1, F1: numbers with their values, also with leading zeros.
func TestNumbers(t *testing.T) {
	for text, n := range map[string]int{
		"0": 0, "9": 9, "00": 0, "07": 7, "10": 10, "000000000000": 0, "000000000001": 1, "100000000000": 100000000000, "999999999999": 999999999999, "099999999999": 99999999999,
		"123456789012": 123456789012, "2147483647": 2147483647, "2147483648": 2147483648, "4294967296": 4294967296, "4294967295": 4294967295, "08": 8, "0010": 10, "010": 10,
	} {
		expect(t, text, tokens(number(text, n, 0)))
		expect(t, " "+text+"\n", tokens(number(text, n, 1)))
		expect(t, "("+text+")", tokens(symbol("(", 0), number(text, n, 1), symbol(")", len(text)+1)))
		expect(t, text+"/"+text, tokens(number(text, n, 0), symbol("/", len(text)), number(text, n, len(text)+1)))
		expect(t, text+"#7", tokens(number(text, n, 0)))
		expect(t, text+" x", tokens(number(text, n, 0), name("x", len(text)+1)))
		expect(t, text+".1", fault(api.ErrChar, len(text)))
		expect(t, text+"!", fault(api.ErrChar, len(text)))
	}
	for i := range digits {
		expect(t, digits[i:i+1], tokens(number(digits[i:i+1], i, 0)))
	}
}

// P6.1, F1: a letter or an underscore directly after a number.
func TestAfterNumbers(t *testing.T) {
	for _, text := range []string{"7", "0", "12", "007", "999999999999"} {
		for i := range letters {
			expect(t, text+letters[i:i+1], fault(api.ErrNumber, 0))
		}
		expect(t, text+"_", fault(api.ErrNumber, 0))
		expect(t, text+"_7", fault(api.ErrNumber, 0))
		expect(t, "-"+text+"x.y", fault(api.ErrNumber, 1))
		expect(t, "a b\n"+text+"e5;", fault(api.ErrNumber, 4))
		expect(t, text+" x", tokens(number(text, lex(text).tokens[0].N, 0), name("x", len(text)+1)))
	}
	expect(t, "0x10", fault(api.ErrNumber, 0))
	expect(t, "1_000", fault(api.ErrNumber, 0))
	expect(t, "12-5x", fault(api.ErrNumber, 3))
}

// P6.1, F1: the symbols, alone and one after the other.
func TestSymbols(t *testing.T) {
	var all []api.Token
	for i := range symbols {
		s := symbols[i : i+1]
		expect(t, s, tokens(symbol(s, 0)))
		expect(t, "a"+s+"5"+s, tokens(name("a", 0), symbol(s, 1), number("5", 5, 2), symbol(s, 3)))
		expect(t, s+s, tokens(symbol(s, 0), symbol(s, 1)))
		all = append(all, symbol(s, i))
	}
	expect(t, symbols, tokens(all...))
}

// P6.1, F1: gaps are blanks, tabs, line feeds and comments, which end before a line feed or with the text.
func TestGaps(t *testing.T) {
	for _, gap := range []string{
		"", " ", "\t", "\n", " \t\n \t\n", "#\n", "# \n", "# a 5 ; ! .\n", "##\n", "#\n#\n", "# 1\n\t# 2\n ", "#\t\n", "# 7x " + strings.Repeat("y", 30) + " 12345678901234\n", "#\xff\xc3\x00\r\n", "# \xc3\xa9 \xe2\x82\xac\n", "#a\n#b\n",
	} {
		n := len(gap)
		expect(t, gap, tokens())
		expect(t, gap+"a", tokens(name("a", n)))
		expect(t, gap+"5"+gap, tokens(number("5", 5, n)))
		expect(t, ";"+gap+";"+gap, tokens(symbol(";", 0), symbol(";", n+1)))
		expect(t, gap+"a"+gap+"=", tokens(name("a", n), symbol("=", 2*n+1)))
		expect(t, gap+"!"+gap, fault(api.ErrChar, n))
	}
	for _, comment := range []string{"#", "##", "# a", "#;", "# 3 ", "#\xff", "#!", "# \t", "#7x", "#.", "# # \r"} {
		expect(t, comment, tokens())
		expect(t, "12 "+comment, tokens(number("12", 12, 0)))
		expect(t, "12"+comment, tokens(number("12", 12, 0)))
		expect(t, "a"+comment, tokens(name("a", 0)))
		expect(t, ";"+comment+"\n"+comment+"\n;"+comment, tokens(symbol(";", 0), symbol(";", 2*len(comment)+3)))
	}
	expect(t, "a b", tokens(name("a", 0), name("b", 2)))
	expect(t, "a#\nb", tokens(name("a", 0), name("b", 3)))
	expect(t, "1\n2\t3 4", tokens(number("1", 1, 0), number("2", 2, 2), number("3", 3, 4), number("4", 4, 6)))
	expect(t, "1#2\n3", tokens(number("1", 1, 0), number("3", 3, 4)))
}

// P6.1, F1: each byte begins a token or a gap, or it is an error.
func TestBytes(t *testing.T) {
	for i := range 256 {
		text := string([]byte{byte(i)})
		switch {
		case i < 128 && strings.Contains(letters, text):
			expect(t, text, tokens(name(text, 0)))
			expect(t, "a;"+text, tokens(name("a", 0), symbol(";", 1), name(text, 2)))
		case i < 128 && strings.Contains(digits, text):
			expect(t, text, tokens(number(text, i-'0', 0)))
			expect(t, "a;"+text, tokens(name("a", 0), symbol(";", 1), number(text, i-'0', 2)))
		case i < 128 && strings.Contains(symbols, text):
			expect(t, text, tokens(symbol(text, 0)))
			expect(t, "a;"+text, tokens(name("a", 0), symbol(";", 1), symbol(text, 2)))
		case i < 128 && strings.Contains(" \t\n#", text):
			expect(t, text, tokens())
			expect(t, "a;"+text, tokens(name("a", 0), symbol(";", 1)))
		default:
			for _, rest := range []string{"", " ", "\n", ";", text, "!", "7x", "#"} {
				expect(t, text+rest, fault(api.ErrChar, 0))
				expect(t, "a;"+text+rest, fault(api.ErrChar, 2))
				expect(t, "7 "+text+rest, fault(api.ErrChar, 2))
				expect(t, "# c\n"+text+rest, fault(api.ErrChar, 4))
			}
			expect(t, "#"+text+"\n5", tokens(number("5", 5, len(text)+2)))
			expect(t, "5#"+text, tokens(number("5", 5, 0)))
		}
	}
}

// P6.1, F1: bytes outside ASCII are no letters, digits or gaps, whatever they stand for.
func TestOutsideASCII(t *testing.T) {
	for _, char := range []string{
		"\u00e9", "\u00c4", "\u0661", "\uff11", "\uff21", "\u00a0", "\u2028", "\u0085", "\ufeff", "\u2026", "\uff1b", "\u0430", "\U0001f4dc", "\ufffd", "\xff", "\x80", "\xc3", "\xed\xa0\x80", "\xc0\xae", "\xf8", "\xe2\x82",
	} {
		expect(t, char, fault(api.ErrChar, 0))
		expect(t, char+"a", fault(api.ErrChar, 0))
		expect(t, "a"+char, fault(api.ErrChar, 1))
		expect(t, "a"+char+"b", fault(api.ErrChar, 1))
		expect(t, "a."+char, fault(api.ErrChar, 1))
		expect(t, "a_"+char, fault(api.ErrChar, 2))
		expect(t, "7"+char, fault(api.ErrChar, 1))
		expect(t, "x \n"+char+"7x", fault(api.ErrChar, 3))
		expect(t, ";"+char+";", fault(api.ErrChar, 1))
		expect(t, "#"+char+char+"\na", tokens(name("a", 2+2*len(char))))
		expect(t, "a#"+char+"7x", tokens(name("a", 0)))
	}
}
