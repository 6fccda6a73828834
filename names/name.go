package names

import "glyph/api"

// IsName tells whether a text is a name.
func IsName(s string) bool {
	if s == "⍺" || s == "⍵" {
		return true
	}
	count := 0
	for _, c := range s {
		if count == api.MaxName || !begins(c) && (count == 0 || !isDigit(c)) {
			return false
		}
		count++
	}
	return count > 0
}

func areNames(l []string) bool {
	for _, name := range l {
		if !IsName(name) {
			return false
		}
	}
	return true
}

// begins tells whether a name may begin with a character.
func begins(c rune) bool {
	return 'A' <= c && c <= 'Z' || 'a' <= c && c <= 'z' || c == '_' || c == '∆'
}

func isDigit(c rune) bool {
	return '0' <= c && c <= '9'
}
