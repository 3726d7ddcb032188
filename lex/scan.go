package lex

import (
	"errors"
	"strconv"

	"muffle/api"
)

// wrong is a place that is wrong, and why it is.
type wrong struct {
	at  int
	why api.Errno
}

func (w wrong) Error() string {
	return w.why.Error() + " at the byte " + strconv.Itoa(w.at)
}

func (w wrong) Unwrap() error {
	return w.why
}

// faultOf is what the error of a scan says of the text.
func faultOf(text string, err error) api.Fault {
	if errors.Is(err, api.ErrLong) {
		// That is wrong with the whole, so no place is told.
		return api.Fault{Errno: api.ErrLong}
	}
	var w wrong
	if !errors.As(err, &w) {
		return api.Fault{}
	}
	line, col := Line(text, w.at)
	return api.Fault{Errno: w.why, Line: line, Col: col}
}

// scan shows each token with the place of its first byte, until it is told to stop by a false.
// If it comes to a place that is wrong, that is its error.
func scan(text string, show func(at int, t api.Token) bool) error {
	if len(text) > api.MaxText {
		return wrong{why: api.ErrLong}
	}
	var err error
	at, line, lineAt := 0, 1, 0
	pass := func(is func(c byte) bool) string {
		from := at
		for at < len(text) && is(text[at]) {
			at++
		}
		return text[from:at]
	}
	known := signs()
scanning:
	for at < len(text) {
		switch c := text[at]; c {
		case '\n':
			line++
			lineAt = at + 1
			fallthrough
		case ' ', '\t', '\r':
			at++
		case '#':
			pass(isOfNote)
		default:
			from := at
			var t api.Token
			var why api.Errno
			if isOfWord(c) {
				t, why = wordToken(pass(isOfWord))
			} else {
				t, why = signToken(known, text[at:])
				at += len(t.Text)
			}
			if why != api.OK {
				err = wrong{from, why}
				break scanning
			}
			t.Line, t.Col = line, from-lineAt+1
			if !show(from, t) {
				break scanning
			}
		}
	}
	return err
}

func isOfNote(c byte) bool {
	return c != '\n'
}

// wordToken is the token that a word is: as many bytes of names and numbers as stand together, one at least.
// All of it is one token, or wrong: a number may have no letter and no _ right behind it.
func wordToken(word string) (api.Token, api.Errno) {
	switch {
	case isDigit(word[0]):
		x, errno := Number(word)
		if errno != api.OK {
			return api.Token{}, errno
		}
		return api.Token{Kind: api.TokenNumber, Text: word, Word: x}, api.OK
	case !isLetter(word[0]):
		return api.Token{}, api.ErrSyntax
	case Own(word):
		return api.Token{Kind: api.TokenOwn, Text: word}, api.OK
	case len(word) > api.MaxName:
		return api.Token{}, api.ErrName
	}
	return api.Token{Kind: api.TokenName, Text: word}, api.OK
}

// signToken is the longest sign with which a text begins.
func signToken(known map[string]struct{}, text string) (api.Token, api.Errno) {
	for n := min(longestSign, len(text)); n > 0; n-- {
		if _, is := known[text[:n]]; is {
			return api.Token{Kind: api.TokenSign, Text: text[:n]}, api.OK
		}
	}
	return api.Token{}, api.ErrSyntax
}

const longestSign = 4

func signs() map[string]struct{} {
	return map[string]struct{}{
		"(": {}, ")": {}, "{": {}, "}": {}, "[": {}, "]": {}, ",": {}, ";": {},
		"=": {}, "+": {}, "-": {}, "*": {}, "&": {}, "|": {}, "^": {}, "~": {},
		"<": {}, "<<": {}, "<<<": {}, "<=": {},
		">": {}, ">>": {}, ">>>": {}, ">>>>": {},
		"==": {}, "!=": {}, "->": {},
	}
}
