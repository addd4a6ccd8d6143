package impl

const (
	MaxText = 65536
	MaxList = 4096
	MaxName = 12

	OK           = 0
	ErrBad       = 1
	ErrLong      = 2
	ErrForm      = 3
	ErrRange     = 4
	ErrNone      = 5
	ErrMany      = 6
	ErrFull      = 7
	ErrSize      = 8
	ErrKind      = 9
	ErrEscape    = 10
	ErrForbidden = 11
	ErrUnmapped  = 12
	ErrShort     = 13
	ErrReset     = 14
	ErrHeader    = 15
	ErrUtf       = 16
	ErrState     = 17
	ErrSame      = 18
)

var codeWords = [...]string{
	OK:           "ok",
	ErrBad:       "bad",
	ErrLong:      "long",
	ErrForm:      "form",
	ErrRange:     "range",
	ErrNone:      "none",
	ErrMany:      "many",
	ErrFull:      "full",
	ErrSize:      "size",
	ErrKind:      "kind",
	ErrEscape:    "escape",
	ErrForbidden: "forbidden",
	ErrUnmapped:  "unmapped",
	ErrShort:     "short",
	ErrReset:     "reset",
	ErrHeader:    "header",
	ErrUtf:       "utf",
	ErrState:     "state",
	ErrSame:      "same",
}

// NameOK reports whether t is a name.
func NameOK(t string) bool {
	if len(t) == 0 || len(t) > MaxName {
		return false
	}
	for at, c := range t {
		if !isLetter(c) && (at == 0 || !isDigit(c)) {
			return false
		}
	}
	return true
}

func isLetter(c rune) bool {
	return c >= 'a' && c <= 'z' || c >= 'A' && c <= 'Z' || c == '_'
}

func isDigit(c rune) bool {
	return c >= '0' && c <= '9'
}

// CodeWord returns the word of a code, and the empty string for any other number.
func CodeWord(code int) string {
	if code < 0 || code >= len(codeWords) {
		return ""
	}
	return codeWords[code]
}

// CodeOf returns the code of a word, and -1 for any other string.
func CodeOf(word string) int {
	for code, w := range codeWords {
		if w == word {
			return code
		}
	}
	return -1
}
