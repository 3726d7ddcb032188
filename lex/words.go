package lex

import (
	"strconv"

	"muffle/api"
)

// Name tells whether this may be a name.
func Name(s string) bool {
	if s == "" || len(s) > api.MaxName || !isLetter(s[0]) || Own(s) {
		return false
	}
	for i := range len(s) {
		if !isOfWord(s[i]) {
			return false
		}
	}
	return true
}

// Own tells whether this is one of the language's own words.
func Own(s string) bool {
	switch s {
	case "array", "else", "fn", "for", "if", "pick", "region", "secret", "stack", "var", "while":
		return true
	}
	return false
}

// Number is the number that a text tells.
func Number(s string) (uint64, api.Errno) {
	if len(s) > 1 && s[0] == '0' {
		return 0, api.ErrSyntax
	}
	// Told that the base is 10, ParseUint takes digits alone.
	x, err := strconv.ParseUint(s, 10, 64)
	if err != nil {
		return 0, api.ErrSyntax
	}
	return x, api.OK
}

// isOfWord tells whether a byte may stand in a name, an own word or a number.
func isOfWord(c byte) bool {
	return isLetter(c) || isDigit(c) || c == '_'
}

func isLetter(c byte) bool {
	return c >= 'a' && c <= 'z'
}

func isDigit(c byte) bool {
	return c >= '0' && c <= '9'
}
