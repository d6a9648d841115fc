package lex

import (
	"regexp"
	"slices"
	"strconv"
	"strings"
	"testing"
	"unicode/utf8"

	"ravel/api"
)

// again scans by patterns, line by line, as the chapter's words say it: what Scan is held against.
type again struct {
	gap, name, number, sign, last *regexp.Regexp
	words                         map[string]bool
}

func newAgain() again {
	w := again{
		gap:    regexp.MustCompile(`^([ \t\r]|//.*)`),
		name:   regexp.MustCompile(`^[a-zA-Z_][a-zA-Z0-9_]*`),
		number: regexp.MustCompile(`^[0-9]+`),
		sign:   regexp.MustCompile(`^(<-|==|!=|<=|>=|&&|\|\||:=|[(){}.,;:*+\-/%<>=!])`),
		last:   regexp.MustCompile(`^([)}]|return|break|int|bool|nil|true|false)$`),
		words:  map[string]bool{},
	}
	for word := range strings.FieldsSeq(words) {
		w.words[word] = true
	}
	return w
}

func (w again) scan(text string) ([]api.Token, api.Fault) {
	var out []api.Token
	at := 0
	for line := range strings.SplitSeq(text, "\n") {
		tokens, fault := w.line(line, at)
		if fault.Code != api.OK {
			return nil, fault
		}
		at += len(line)
		if n := len(tokens); n > 0 && w.ends(tokens[n-1]) {
			tokens = append(tokens, api.Token{Kind: api.TokSign, Text: ";", At: at})
		}
		out = append(out, tokens...)
		at++
	}
	return out, api.Fault{}
}

func (w again) ends(last api.Token) bool {
	if last.Kind == api.TokName || last.Kind == api.TokNumber {
		return true
	}
	return w.last.MatchString(last.Text)
}

func (w again) line(line string, from int) ([]api.Token, api.Fault) {
	var out []api.Token
	for at := 0; at < len(line); {
		rest := line[at:]
		t := api.Token{At: from + at}
		if gap := w.gap.FindString(rest); gap != "" {
			for i, r := range gap {
				if r == utf8.RuneError && !strings.HasPrefix(gap[i:], "\ufffd") {
					return nil, api.Fault{Code: api.ErrRune, At: from + at + i}
				}
			}
			at += len(gap)
			continue
		}
		if t.Text = w.name.FindString(rest); t.Text != "" {
			t.Kind = api.TokName
			if w.words[t.Text] {
				t.Kind = api.TokWord
			}
		} else if t.Text = w.number.FindString(rest); t.Text != "" {
			t.Kind = api.TokNumber
			t.Num, _ = strconv.Atoi(t.Text)
			if len(t.Text) > 9 || strconv.Itoa(t.Num) != t.Text {
				return nil, api.Fault{Code: api.ErrSyntax, At: t.At}
			}
		} else if t.Text = w.sign.FindString(rest); t.Text != "" {
			t.Kind = api.TokSign
		} else {
			return nil, api.Fault{Code: api.ErrRune, At: t.At}
		}
		out = append(out, t)
		at += len(t.Text)
	}
	return out, api.Fault{}
}

func (w again) hold(t *testing.T, text string) {
	t.Helper()
	got, fault := Scan(text)
	want, wrong := w.scan(text)
	if fault != wrong || !slices.Equal(got, want) {
		t.Errorf("%q: got %v, %v, want %v, %v", text, got, fault, want, wrong)
	}
}

// TestAllShortRows holds all rows of up to four pieces against the other way.
func TestAllShortRows(t *testing.T) {
	pieces := []string{"a", "0", "7", "12345", "return", "if", ")", "{", "/", "<", "-", "=", ":", "!", "&", "|", ";", " ", "\r", "\n", "é", "\ufffd", "\xff"}
	w := newAgain()
	var rows func(text string, more int)
	rows = func(text string, more int) {
		w.hold(t, text)
		if more == 0 || t.Failed() {
			return
		}
		for _, piece := range pieces {
			rows(text+piece, more-1)
		}
	}
	rows("", 4)
}

func FuzzScan(f *testing.F) {
	f.Add("func main(){print(1+2*3)}")
	f.Add("x := a<-b // é\n12\r\n00")
	w := newAgain()
	f.Fuzz(func(t *testing.T, text string) {
		if len(text) > api.MaxText {
			wantFault(t, text, api.ErrSize, 0)
			return
		}
		w.hold(t, text)
	})
}
