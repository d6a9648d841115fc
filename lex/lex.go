// Package lex cuts texts into tokens: see doc/01-lex.md.
package lex

import (
	"strconv"
	"strings"
	"unicode/utf8"

	"ravel/api"
)

const maxDigits = 9

// scanner goes through a text from the left.
type scanner struct {
	text   string
	at     int
	tokens []api.Token
	open   bool // the line's last token asks for a ";" at the line's end
}

// Scan answers the tokens of a text, or what is wrong with it.
func Scan(text string) (tokens []api.Token, fault api.Fault) {
	if len(text) > api.MaxText {
		return nil, api.Fault{Code: api.ErrSize}
	}
	defer func() {
		if given := recover(); given != nil {
			// giveUp alone panics in here, so there is nothing else to recover from.
			tokens, fault = nil, given.(api.Fault)
		}
	}()
	s := scanner{text: text}
	for s.at < len(text) {
		s.step()
	}
	s.endLine()
	return s.tokens, api.Fault{}
}

// step goes on by one token, one blank, one note or one line feed.
func (s *scanner) step() {
	r, _ := s.peek()
	switch {
	case r == '\n':
		s.endLine()
		s.at++
	case isBlank(r):
		s.at++
	case strings.HasPrefix(s.text[s.at:], "//"):
		s.skipNote()
	case isDigit(r):
		s.takeNumber()
	case isLetter(r):
		s.takeName()
	default:
		s.takeSign()
	}
}

// peek answers the rune that begins here, and how many bytes it has.
func (s *scanner) peek() (rune, int) {
	return utf8.DecodeRuneInString(s.text[s.at:])
}

// giveUp ends the whole scan; Scan recovers the fault.
func (s *scanner) giveUp(code api.Errno) {
	panic(api.Fault{Code: code, At: s.at})
}

// endLine puts the ";" that may be left out at the end of a line.
func (s *scanner) endLine() {
	if s.open {
		s.put(api.Token{Kind: api.TokSign, Text: ";", At: s.at})
	}
}

// skipNote stops ahead of the line feed, which ends the line and not the note.
func (s *scanner) skipNote() {
	for s.at < len(s.text) {
		r, size := s.peek()
		if r == '\n' {
			return
		}
		// U+FFFD may stand in a note as well; written out, it has three bytes.
		if r == utf8.RuneError && size == 1 {
			s.giveUp(api.ErrRune)
		}
		s.at += size
	}
}

func (s *scanner) takeNumber() {
	text := s.piece(isDigit)
	if len(text) > maxDigits || len(text) > 1 && text[0] == '0' {
		s.giveUp(api.ErrSyntax)
	}
	num, _ := strconv.Atoi(text) // so few digits always fit
	s.take(api.TokNumber, text, num)
}

func (s *scanner) takeName() {
	text := s.piece(isNamePart)
	kind := api.TokName
	if isWord(text) {
		kind = api.TokWord
	}
	s.take(kind, text, 0)
}

func (s *scanner) takeSign() {
	rest := s.text[s.at:]
	size := signSize(rest)
	if size == 0 {
		s.giveUp(api.ErrRune)
	}
	s.take(api.TokSign, rest[:size], 0)
}

// piece answers the text from here on, as far as all its runes are such ones.
func (s *scanner) piece(such func(rune) bool) string {
	rest := s.text[s.at:]
	for i, r := range rest {
		if !such(r) {
			return rest[:i]
		}
	}
	return rest
}

// take puts the token that begins here, and goes on behind it.
func (s *scanner) take(kind int, text string, num int) {
	// A copy, so that no answer shares memory with the text that was handed in.
	s.put(api.Token{Kind: kind, Text: strings.Clone(text), Num: num, At: s.at})
	s.at += len(text)
}

func (s *scanner) put(t api.Token) {
	s.tokens = append(s.tokens, t)
	s.open = canEndLine(t)
}
