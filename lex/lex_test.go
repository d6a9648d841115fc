package lex

import (
	"slices"
	"strings"
	"testing"
	"unsafe"

	"ravel/api"
)

const words = "func type struct interface if else for return break select case default go close panic print new make chan int bool nil true false"
const signs = "<- == != <= >= && || := ( ) { } . , ; : * + - / % < > = !"

// scanned answers the tokens of a text that has to have some.
func scanned(t *testing.T, text string) []api.Token {
	t.Helper()
	tokens, fault := Scan(text)
	if fault != (api.Fault{}) {
		t.Fatalf("%q: fault %v", text, fault)
	}
	return tokens
}

// texts writes tokens with a blank between them.
func texts(tokens []api.Token) string {
	var out []string
	for _, x := range tokens {
		out = append(out, x.Text)
	}
	return strings.Join(out, " ")
}

func wantTexts(t *testing.T, text, want string) {
	t.Helper()
	if got := texts(scanned(t, text)); got != want {
		t.Errorf("%q: got %q, want %q", text, got, want)
	}
}

func wantTokens(t *testing.T, text string, want ...api.Token) {
	t.Helper()
	if got := scanned(t, text); !slices.Equal(got, want) {
		t.Errorf("%q: got %v, want %v", text, got, want)
	}
}

func wantFault(t *testing.T, text string, code api.Errno, at int) {
	t.Helper()
	tokens, fault := Scan(text)
	if fault != (api.Fault{Code: code, At: at}) || len(tokens) != 0 {
		t.Errorf("%.40q: got %v, %v, want fault %d at %d", text, tokens, fault, code, at)
	}
}

// A1

func TestBlanksPartTokens(t *testing.T) {
	for _, blank := range []string{" ", "\t", "\r", " \t\r "} {
		wantTexts(t, "+"+blank+"-", "+ -")
		wantTexts(t, "a"+blank+"b", "a b ;")
		wantTexts(t, "1"+blank+"2", "1 2 ;")
		wantTexts(t, "<"+blank+"-", "< -")
	}
	wantTexts(t, "<\n-", "< -")
	for _, text := range []string{"", " ", "\t\r\n \n", "//", "// a b\n", "//\n//"} {
		wantTokens(t, text)
	}
}

func TestNotes(t *testing.T) {
	wantTexts(t, "+//- a\n*", "+ *")
	wantTexts(t, "+ / / *", "+ / / *")
	wantTexts(t, "///+\n-", "-")
	wantTexts(t, "a//b\r\nc", "a ; c ;")
	wantTexts(t, "*//é€😀\ufffd\x00\x7f #&|\n-", "* -")
	wantTexts(t, "// 01 1234567890\n-", "-")
}

func TestNames(t *testing.T) {
	for _, name := range []string{"a", "z", "A", "Z", "_", "a0", "_9", "x_Y_0189", "abcdefghijklmnopqrstuvwxyz", "ABCDEFGHIJKLMNOPQRSTUVWXYZ",
		"iff", "i", "Int", "INT", "string", "main", "append", "cap", "const", "continue", "defer", "error", "fallthrough", "goto", "import", "len", "map", "package", "range", "recover", "switch", "var", "_if", "if_", "nil0", "xnil", strings.Repeat("n", 5000)} {
		wantTokens(t, name+"+", api.Token{Kind: api.TokName, Text: name}, api.Token{Kind: api.TokSign, Text: "+", At: len(name)})
	}
	wantTexts(t, "12ab", "12 ab ;")
	wantTexts(t, "a.b1.c", "a . b1 . c ;")
}

func TestWords(t *testing.T) {
	for word := range strings.FieldsSeq(words) {
		wantTokens(t, word+"+", api.Token{Kind: api.TokWord, Text: word}, api.Token{Kind: api.TokSign, Text: "+", At: len(word)})
	}
}

func TestNumbers(t *testing.T) {
	for _, x := range []struct {
		text string
		num  int
	}{{"0", 0}, {"7", 7}, {"9", 9}, {"10", 10}, {"123456789", 123456789}, {"999999999", 999999999}, {"100000000", 100000000}} {
		wantTokens(t, x.text+"+", api.Token{Kind: api.TokNumber, Text: x.text, Num: x.num}, api.Token{Kind: api.TokSign, Text: "+", At: len(x.text)})
	}
	wantTexts(t, "0 0", "0 0 ;")
	wantTexts(t, "0x1", "0 x1 ;")
	wantTexts(t, "1.5-2", "1 . 5 - 2 ;")
}

func TestSigns(t *testing.T) {
	for sign := range strings.FieldsSeq(signs) {
		wantTokens(t, sign+" *", api.Token{Kind: api.TokSign, Text: sign}, api.Token{Kind: api.TokSign, Text: "*", At: len(sign) + 1})
	}
}

func TestLongestSign(t *testing.T) {
	for text, want := range map[string]string{
		"<--":  "<- -",
		"<<-":  "< <-",
		"<=-":  "<= -",
		"<==":  "<= =",
		"===":  "== =",
		"====": "== ==",
		"=!=":  "= !=",
		"!==":  "!= =",
		"!!":   "! !",
		">==":  ">= =",
		">>":   "> >",
		"::=":  ": :=",
		":==":  ":= =",
		"-<-":  "- <-",
		"->":   "- >",
		"++":   "+ +",
		"&&&&": "&& &&",
		"||||": "|| ||",
		"..":   ". .",
		"(){}": "( ) { } ;",
	} {
		wantTexts(t, text, want)
	}
}

// A2

func TestPutAtLineEnds(t *testing.T) {
	ending := " ) } return break int bool nil true false "
	for piece := range strings.FieldsSeq(words + " " + signs) {
		want := piece + " "
		if strings.Contains(ending, " "+piece+" ") {
			want += "; "
		}
		wantTexts(t, piece+"\n+", want+"+")
		wantTexts(t, piece+" \t\r// note\n+", want+"+")
		wantTexts(t, piece, strings.TrimRight(want, " "))
	}
	wantTexts(t, "a\n12\n", "a ; 12 ;")
	wantTexts(t, "a +\n12 *\n", "a + 12 *")
}

func TestPutOncePerLine(t *testing.T) {
	wantTexts(t, "a\n\n\n", "a ;")
	wantTexts(t, "a\n \t// b\n\n+", "a ; +")
	wantTexts(t, "a;\n", "a ;")
	wantTexts(t, "a;;\n", "a ; ;")
	wantTexts(t, "+\n\n", "+")
}

func TestWherePut(t *testing.T) {
	name := func(at int) api.Token { return api.Token{Kind: api.TokName, Text: "a", At: at} }
	put := func(at int) api.Token { return api.Token{Kind: api.TokSign, Text: ";", At: at} }
	wantTokens(t, "a", name(0), put(1))
	wantTokens(t, "a  ", name(0), put(3))
	wantTokens(t, "a // é", name(0), put(7))
	wantTokens(t, "a\n", name(0), put(1))
	wantTokens(t, "a \r\n", name(0), put(3))
	wantTokens(t, "a // é\n a", name(0), put(7), name(9), put(10))
	wantTokens(t, "a ;", name(0), put(2))
}

// A3

func TestTokens(t *testing.T) {
	wantTokens(t, "x := a<-b\n",
		api.Token{Kind: api.TokName, Text: "x", At: 0},
		api.Token{Kind: api.TokSign, Text: ":=", At: 2},
		api.Token{Kind: api.TokName, Text: "a", At: 5},
		api.Token{Kind: api.TokSign, Text: "<-", At: 6},
		api.Token{Kind: api.TokName, Text: "b", At: 8},
		api.Token{Kind: api.TokSign, Text: ";", At: 9})
	wantTokens(t, "//é\n\tfor 30{",
		api.Token{Kind: api.TokWord, Text: "for", At: 6},
		api.Token{Kind: api.TokNumber, Text: "30", Num: 30, At: 10},
		api.Token{Kind: api.TokSign, Text: "{", At: 12})
}

func TestSize(t *testing.T) {
	scanned(t, strings.Repeat("a", api.MaxText))
	scanned(t, "a"+strings.Repeat(" ", api.MaxText-1))
	if got := scanned(t, strings.Repeat("a\n", api.MaxText/2)); len(got) != api.MaxText {
		t.Error("tokens of the longest text:", len(got))
	}
	wantFault(t, strings.Repeat("a", api.MaxText+1), api.ErrSize, 0)
	wantFault(t, strings.Repeat(" ", api.MaxText+1), api.ErrSize, 0)
	wantFault(t, "\xff"+strings.Repeat("01 ", api.MaxText), api.ErrSize, 0)
	wantFault(t, "//"+strings.Repeat("é", api.MaxText/2), api.ErrSize, 0)
	scanned(t, "//"+strings.Repeat("é", api.MaxText/2-1))
}

func TestRunesThatBeginNoToken(t *testing.T) {
	for _, piece := range []string{"é", "€", "😀", "\ufffd", "\ufeff", "\u00a0", "\u2028", "\u0660", "ａ",
		"\x00", "\x01", "\v", "\f", "\x1b", "\x7f", "#", "$", "@", "?", "\"", "'", "`", "\\", "^", "~", "[", "]",
		"&", "|", "&+", "|+", "& &", "| |", "&|", "|&", "&="} {
		wantFault(t, piece, api.ErrRune, 0)
		wantFault(t, "a1 "+piece+" b", api.ErrRune, 3)
		wantFault(t, "a1"+piece, api.ErrRune, 2)
		wantFault(t, "//é\n"+piece, api.ErrRune, 5)
	}
	wantFault(t, "&&&", api.ErrRune, 2)
	wantFault(t, "|||", api.ErrRune, 2)
	for b := range 0x80 {
		piece := string(rune(b))
		if !strings.Contains(" \t\r\n_(){}.,;:*+-/%<>=!", piece) && !isNamePart(rune(b)) {
			wantFault(t, "a "+piece, api.ErrRune, 2)
		}
	}
}

func TestBytesThatBeginNoRune(t *testing.T) {
	for _, piece := range []string{"\x80", "\xbf", "\xc0\x80", "\xc1\xbf", "\xc3", "\xc3a", "\xe2\x82", "\xed\xa0\x80", "\xed\xbf\xbf",
		"\xe0\x80\xaf", "\xf0\x9f\x98", "\xf0\x80\x80\x80", "\xf4\x90\x80\x80", "\xf8", "\xfe", "\xff"} {
		wantFault(t, piece, api.ErrRune, 0)
		wantFault(t, "a "+piece, api.ErrRune, 2)
		wantFault(t, "a//"+piece, api.ErrRune, 3)
		wantFault(t, "// é"+piece+"\n01", api.ErrRune, 5)
		wantFault(t, "//\n//\ufffd"+piece, api.ErrRune, 8)
	}
}

func TestNumbersThatMayNotBe(t *testing.T) {
	for _, number := range []string{"00", "01", "000", "0123456789", "012345678", "1234567890", "1000000000", "9999999999", "18446744073709551617",
		strings.Repeat("0", 5000), strings.Repeat("9", 5000)} {
		wantFault(t, number, api.ErrSyntax, 0)
		wantFault(t, "a + "+number+" ", api.ErrSyntax, 4)
		wantFault(t, "//é\n-"+number+"x", api.ErrSyntax, 6)
	}
}

func TestFirstFaultFromTheLeft(t *testing.T) {
	wantFault(t, "00\xff", api.ErrSyntax, 0)
	wantFault(t, "\xff00", api.ErrRune, 0)
	wantFault(t, "a # 00", api.ErrRune, 2)
	wantFault(t, "a 00 #", api.ErrSyntax, 2)
	wantFault(t, "00 // \xff", api.ErrSyntax, 0)
	wantFault(t, "// \xff\n00", api.ErrRune, 3)
	wantFault(t, "1234567890é", api.ErrSyntax, 0)
	wantFault(t, "é1234567890", api.ErrRune, 0)
}

// P3

// TestNewMemory changes what one call answered, and asks whether another one's answer, or the text, has any of it.
func TestNewMemory(t *testing.T) {
	text := "func main() { x := 12 }"
	first := scanned(t, text)
	from := uintptr(unsafe.Pointer(unsafe.StringData(text)))
	for _, x := range first {
		at := uintptr(unsafe.Pointer(unsafe.StringData(x.Text)))
		if from <= at && at < from+uintptr(len(text)) {
			t.Errorf("%q lies in the text", x.Text)
		}
	}
	kept := slices.Clone(first)
	second := scanned(t, text)
	clear(first)
	if !slices.Equal(second, kept) {
		t.Error("two answers share memory")
	}
}
