package lexer_test

import (
	"slices"
	"strings"
	"testing"

	"estoppel/api"
	"estoppel/lexer"
)

// maxSource is the most bytes of a text that can have tokens.
const maxSource = 20000

// many returns a number of tokens with a text each, which stand some bytes apart.
func many(count int, first api.Token, apart int) []api.Token {
	var all []api.Token
	for i := range count {
		next := first
		next.At += i * apart
		all = append(all, next)
	}
	return all
}

// P6.1, F1: names of up to 24 bytes and longer ones, of each byte that names can have.
func TestLongNames(t *testing.T) {
	for length := 1; length < 60; length++ {
		for _, text := range []string{strings.Repeat("y", length), "y" + strings.Repeat("7", length-1), "Y" + strings.Repeat("_", length-1)} {
			want := tokens(name(text, 0))
			if length > 24 {
				want = fault(api.ErrLimit, 0)
			}
			expect(t, text, want)
			expect(t, text+" # c\n", want)
			if length > 24 {
				expect(t, "a 5 "+text+";", fault(api.ErrLimit, 4))
				expect(t, text+".", fault(api.ErrLimit, 0))
				expect(t, text+"!", fault(api.ErrLimit, 0))
				expect(t, text+" 7x", fault(api.ErrLimit, 0))
				expect(t, "!"+text, fault(api.ErrChar, 0))
			} else {
				expect(t, "a 5 "+text+";", tokens(name("a", 0), number("5", 5, 2), name(text, 4), symbol(";", 4+length)))
				expect(t, text+".", fault(api.ErrChar, length))
				expect(t, text+"!", fault(api.ErrChar, length))
				expect(t, text+" 7x", fault(api.ErrNumber, length+1))
			}
		}
	}
}

// P6.1, F1: inner dots count for the length of a name, a dot at its end does not.
func TestLongNamesWithDots(t *testing.T) {
	for length := 1; length < 40; length++ {
		text := strings.Repeat("y", length)
		for _, rest := range []string{"x", "7", "_"} {
			want := tokens(name(text+"."+rest, 0))
			if length+2 > 24 {
				want = fault(api.ErrLimit, 0)
			}
			expect(t, text+"."+rest, want)
		}
		for _, rest := range []string{"", ".", " ", ";", ".x", "-5", "\xc3"} {
			want := fault(api.ErrChar, length)
			if length > 24 {
				want = fault(api.ErrLimit, 0)
			}
			expect(t, text+"."+rest, want)
		}
	}
	for length := 1; length < 40; length++ {
		text := strings.Repeat("y.", length)
		want := fault(api.ErrChar, 2*length-1)
		if 2*length-1 > 24 {
			want = fault(api.ErrLimit, 0)
		}
		expect(t, text, want)
	}
	expect(t, strings.Repeat("y", maxSource), fault(api.ErrLimit, 0))
	expect(t, strings.Repeat("y.", maxSource/2), fault(api.ErrLimit, 0))
}

// P6.1, F1: numbers of up to 12 digits and longer ones, also if their values are small or no ints.
func TestLongNumbers(t *testing.T) {
	for length := 1; length < 60; length++ {
		for _, digit := range []string{"0", "1", "9"} {
			text := strings.Repeat(digit, length)
			value := 0
			for range min(length, 12) {
				value = value*10 + int(digit[0]-'0')
			}
			want := tokens(number(text, value, 0))
			if length > 12 {
				want = fault(api.ErrNumber, 0)
			}
			expect(t, text, want)
			expect(t, text+"\n", want)
			expect(t, text+"#", want)
			expect(t, text+"x", fault(api.ErrNumber, 0))
			expect(t, "a."+text[:min(length, 22)], tokens(name("a."+text[:min(length, 22)], 0)))
			if length > 12 {
				expect(t, "a - "+text+";", fault(api.ErrNumber, 4))
				expect(t, text+".", fault(api.ErrNumber, 0))
				expect(t, text+"!", fault(api.ErrNumber, 0))
				expect(t, "! "+text, fault(api.ErrChar, 0))
			} else {
				expect(t, "a - "+text+";", tokens(name("a", 0), symbol("-", 2), number(text, value, 4), symbol(";", 4+length)))
				expect(t, text+".", fault(api.ErrChar, length))
			}
		}
	}
	expect(t, "0000000000007", fault(api.ErrNumber, 0))
	expect(t, "1000000000000", fault(api.ErrNumber, 0))
	expect(t, "18446744073709551617", fault(api.ErrNumber, 0))
	expect(t, strings.Repeat("0", maxSource), fault(api.ErrNumber, 0))
	expect(t, strings.Repeat("9", maxSource), fault(api.ErrNumber, 0))
}

// P6.1, F1: 5000 tokens, and more of them, of each kind.
func TestManyTokens(t *testing.T) {
	for _, test := range []struct {
		text string
		one  api.Token
	}{
		{";", symbol(";", 0)}, {"a ", name("a", 0)}, {"7\n", number("7", 7, 0)}, {"#\n-", symbol("-", 2)}, {"}#\n", symbol("}", 0)}, {"x.y\t", name("x.y", 0)}, {" 00\n", number("00", 0, 1)},
	} {
		apart := len(test.text)
		for _, count := range []int{1, 2, 4999, 5000} {
			expect(t, strings.Repeat(test.text, count), tokens(many(count, test.one, apart)...))
		}
		full := strings.Repeat(test.text, 5000)
		if apart < 4 {
			expect(t, full+test.text, fault(api.ErrLimit, len(full)+test.one.At))
			expect(t, full+test.text+test.text, fault(api.ErrLimit, len(full)+test.one.At))
			expect(t, full+strings.Repeat(" ", maxSource-len(full)), tokens(many(5000, test.one, apart)...))
			expect(t, full+"# 7x ! a", tokens(many(5000, test.one, apart)...))
		}
	}
	expect(t, strings.Repeat(";", maxSource), fault(api.ErrLimit, 5000))
}

// P6.1, F1: the token after the first 5000 has its own error if it has one, and nothing after it matters.
func TestTokenTooMany(t *testing.T) {
	full := strings.Repeat(";", 5000)
	for _, test := range []struct {
		text string
		err  api.Errno
		at   int
	}{
		{"a", api.ErrLimit, 5000}, {"7", api.ErrLimit, 5000}, {"}", api.ErrLimit, 5000}, {" \n# 7x\n 7", api.ErrLimit, 5008}, {"aa.bb", api.ErrLimit, 5000}, {"123456789012", api.ErrLimit, 5000},
		{"!", api.ErrChar, 5000}, {"\xff", api.ErrChar, 5000}, {".", api.ErrChar, 5000}, {"_", api.ErrChar, 5000}, {"\r", api.ErrChar, 5000}, {" #\n!", api.ErrChar, 5003},
		{"7x", api.ErrNumber, 5000}, {"7_", api.ErrNumber, 5000}, {"1234567890123", api.ErrNumber, 5000}, {" 0x", api.ErrNumber, 5001},
		{strings.Repeat("y", 25), api.ErrLimit, 5000}, {" " + strings.Repeat("y", 24), api.ErrLimit, 5001},
		{"a!", api.ErrLimit, 5000}, {"a.", api.ErrLimit, 5000}, {"7.x", api.ErrLimit, 5000}, {"; 7x", api.ErrLimit, 5000}, {"7;x!", api.ErrLimit, 5000}, {"a \xff", api.ErrLimit, 5000},
	} {
		expect(t, full+test.text, fault(test.err, test.at))
	}
	for _, test := range []struct {
		text string
		err  api.Errno
	}{{"!", api.ErrChar}, {"7x", api.ErrNumber}, {strings.Repeat("y", 25), api.ErrLimit}} {
		expect(t, full[:4999]+test.text, fault(test.err, 4999))
		expect(t, full[:4999]+test.text+full, fault(test.err, 4999))
		expect(t, test.text+full+full, fault(test.err, 0))
	}
}

// P6.1, F1: texts of 20000 bytes, and longer ones, whatever they have.
func TestLongTexts(t *testing.T) {
	for _, test := range []struct {
		text string
		want result
	}{
		{strings.Repeat(" ", 20000), tokens()}, {strings.Repeat("\t\n", 10000), tokens()}, {"#" + strings.Repeat("!", 19999), tokens()}, {strings.Repeat("#\n", 10000), tokens()},
		{strings.Repeat(" ", 19999) + "a", tokens(name("a", 19999))}, {strings.Repeat("\n", 19998) + "77", tokens(number("77", 77, 19998))}, {"a" + strings.Repeat("\t", 19999), tokens(name("a", 0))},
		{strings.Repeat("#", 19999) + "\n", tokens()}, {"#" + strings.Repeat("\xff", 19997) + "\n;", tokens(symbol(";", 19999))}, {strings.Repeat(" ", 19999) + "!", fault(api.ErrChar, 19999)},
		{strings.Repeat(" ", 19998) + "a.", fault(api.ErrChar, 19999)}, {strings.Repeat(" ", 19998) + "7x", fault(api.ErrNumber, 19998)}, {strings.Repeat("y", 19999) + "!", fault(api.ErrLimit, 0)},
		{strings.Repeat("abc ", 5000), tokens(many(5000, name("abc", 0), 4)...)}, {"!" + strings.Repeat(" ", 19999), fault(api.ErrChar, 0)},
	} {
		if len(test.text) != maxSource {
			t.Errorf("%.60q has %d bytes", test.text, len(test.text))
		}
		expect(t, test.text, test.want)
		for _, more := range []string{" ", "\n", "#", "a", "7", ";", "!", "\x00", "\n!", strings.Repeat(" ", 20000)} {
			expect(t, test.text+more, fault(api.ErrLimit, -1))
			expect(t, more+test.text, fault(api.ErrLimit, -1))
		}
	}
	expect(t, strings.Repeat(";", 20001), fault(api.ErrLimit, -1))
	expect(t, strings.Repeat("y", 20001), fault(api.ErrLimit, -1))
	expect(t, strings.Repeat("\xff", 1<<24), fault(api.ErrLimit, -1))
}

// P1, P6.1, F1: of several errors, the first one from left to right counts.
func TestFirstError(t *testing.T) {
	faults := []struct {
		text string
		err  api.Errno
	}{
		{"!", api.ErrChar}, {".", api.ErrChar}, {"_", api.ErrChar}, {"\r", api.ErrChar}, {"\xe2\x82\xac", api.ErrChar}, {"7x", api.ErrNumber}, {"7_", api.ErrNumber}, {"1234567890123", api.ErrNumber},
		{strings.Repeat("7", 13) + "x", api.ErrNumber}, {strings.Repeat("y", 25), api.ErrLimit}, {strings.Repeat("y.", 12) + "y", api.ErrLimit},
	}
	for _, first := range faults {
		for _, before := range []string{"", " ", "a ", "5;", "# !\n", "x.y = 7/2 "} {
			expect(t, before+first.text, fault(first.err, len(before)))
			for _, second := range faults {
				expect(t, before+first.text+" "+second.text, fault(first.err, len(before)))
				expect(t, before+first.text+"\na; "+second.text, fault(first.err, len(before)))
				expect(t, before+"# "+second.text+"\n"+first.text, fault(first.err, len(before)+3+len(second.text)))
			}
		}
	}
	expect(t, "7x !", fault(api.ErrNumber, 0))
	expect(t, "! 7x", fault(api.ErrChar, 0))
	expect(t, "7!x", fault(api.ErrChar, 1))
	expect(t, "7_!", fault(api.ErrNumber, 0))
}

// P3: a second call has the same result, although the first one was changed.
func TestAgain(t *testing.T) {
	text := "duty d of a: x within 3 business days; # comment"
	want := lex(text)
	kept := slices.Clone(want.tokens)
	for i := range want.tokens {
		want.tokens[i] = api.Token{}
	}
	expect(t, text, tokens(kept...))
	expect(t, "!", fault(api.ErrChar, 0))
	expect(t, text, tokens(kept...))
}

// P1: with an error there are no tokens.
func TestNoTokens(t *testing.T) {
	for _, text := range []string{"a b ! c", "a; 7x", "a " + strings.Repeat("y", 25), strings.Repeat(";", 5001), strings.Repeat(";", 20001)} {
		if all, err, _ := lexer.Lex(text); len(all) != 0 || err == api.OK {
			t.Errorf("%.60q: %d tokens, %v", text, len(all), err)
		}
	}
}
