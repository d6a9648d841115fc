package lex

import "ravel/api"

func isBlank(r rune) bool {
	return r == ' ' || r == '\t' || r == '\r'
}

func isDigit(r rune) bool {
	return '0' <= r && r <= '9'
}

// isLetter tells what can begin a name.
func isLetter(r rune) bool {
	return 'a' <= r && r <= 'z' || 'A' <= r && r <= 'Z' || r == '_'
}

func isNamePart(r rune) bool {
	return isLetter(r) || isDigit(r)
}

func isWord(text string) bool {
	switch text {
	case "func", "type", "struct", "interface",
		"if", "else", "for", "return", "break",
		"select", "case", "default",
		"go", "close", "panic", "print", "new", "make",
		"chan", "int", "bool", "nil", "true", "false":
		return true
	}
	return false
}

// signSize tells how many bytes the sign has with which a text (not an empty one) begins; 0: it begins with none.
func signSize(text string) int {
	if len(text) > 1 {
		switch text[:2] {
		case "<-", "==", "!=", "<=", ">=", "&&", "||", ":=":
			return 2
		}
	}
	switch text[0] {
	case '(', ')', '{', '}', '.', ',', ';', ':', '*', '+', '-', '/', '%', '<', '>', '=', '!':
		return 1
	}
	return 0
}

// canEndLine tells whether a ";" is put behind a token that is its line's last.
func canEndLine(t api.Token) bool {
	switch t.Kind {
	case api.TokName, api.TokNumber:
		return true
	case api.TokSign:
		return t.Text == ")" || t.Text == "}"
	}
	switch t.Text {
	case "return", "break", "int", "bool", "nil", "true", "false":
		return true
	}
	return false
}
