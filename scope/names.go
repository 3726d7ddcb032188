package scope

import "muffle/api"

// isName tells whether a text may be a name. Layer 4 tells it likewise, but this layer calls none.
func isName(s string) bool {
	if len(s) < 1 || len(s) > api.MaxName || !isLetter(s[0]) || isOwn(s) {
		return false
	}
	for i := range len(s) {
		if c := s[i]; !isLetter(c) && (c < '0' || c > '9') && c != '_' {
			return false
		}
	}
	return true
}

func isLetter(c byte) bool {
	return c >= 'a' && c <= 'z'
}

// isOwn tells whether a text is one of the language's own words.
func isOwn(s string) bool {
	switch s {
	case "array", "else", "fn", "for", "if", "pick", "region", "secret", "stack", "var", "while":
		return true
	}
	return false
}
