package impl

import (
	"errors"
	"strconv"
	"strings"
	"unicode/utf8"
)

const (
	MaxRunes = 400
	MaxRune  = 1114111
	Missing  = 65533
)

const (
	firstSurrogate = 55296
	lastSurrogate  = 57343
	hexDigits      = "0123456789abcdef"
)

var (
	errTruncated = errors.New("truncated UTF-8 sequence")
	errInvalid   = errors.New("invalid UTF-8 sequence")
)

// A runeFault wraps the reason why no character can be taken, because RunesOf
// reports the offset beside it.
type runeFault struct {
	at    int
	cause error
}

func (f runeFault) Error() string {
	return f.cause.Error() + " at " + strconv.Itoa(f.at)
}

func (f runeFault) Unwrap() error {
	return f.cause
}

// RuneOK reports whether r is a Unicode scalar value.
func RuneOK(r int) bool {
	return r >= 0 && r <= MaxRune && (r < firstSurrogate || r > lastSurrogate)
}

// PutRune returns the UTF-8 encoding of a character.
func PutRune(r int) (string, int) {
	if !RuneOK(r) {
		return "", ErrRange
	}
	return string(rune(r)), OK
}

// TakeRune returns the character at an offset and the offset behind it.
func TakeRune(t string, at int) (int, int, int) {
	if len(t) > MaxText {
		return 0, 0, ErrLong
	}
	if at < 0 || at >= len(t) {
		return 0, 0, ErrSize
	}
	return runeOf(t, at)
}

// runeOf is TakeRune for an offset inside t, whose length is not limited here.
func runeOf(t string, at int) (int, int, int) {
	r, next, err := runeAt(t, at)
	if err != nil {
		return 0, 0, faultCode(err)
	}
	return int(r), next, OK
}

// runeAt decodes the character at an offset inside t. The length of t is not
// limited here.
func runeAt(t string, at int) (rune, int, error) {
	r, more, ok := leadByte(t[at])
	if !ok {
		return 0, 0, runeFault{at, errInvalid}
	}
	next := at + 1
	for range more {
		if next == len(t) {
			return 0, 0, runeFault{at, errTruncated}
		}
		b := t[next]
		if b < 128 || b > 191 {
			return 0, 0, runeFault{at, errInvalid}
		}
		r = r<<6 + rune(b-128)
		next++
	}
	// RuneLen is -1 for what is no character, and smaller than the sequence for
	// an overlong form.
	if utf8.RuneLen(r) != next-at {
		return 0, 0, runeFault{at, errInvalid}
	}
	return r, next, nil
}

// leadByte returns the bits of a first byte and the number of continuation
// bytes that it requires, and false if no sequence starts with it.
func leadByte(b byte) (rune, int, bool) {
	switch {
	case b < 128:
		return rune(b), 0, true
	case b < 192:
		return 0, 0, false
	case b < 224:
		return rune(b - 192), 1, true
	case b < 240:
		return rune(b - 224), 2, true
	case b < 248:
		return rune(b - 240), 3, true
	}
	return 0, 0, false
}

func faultCode(err error) int {
	if errors.Is(err, errTruncated) {
		return ErrShort
	}
	return ErrUtf
}

func faultOffset(err error) int {
	var fault runeFault
	if errors.As(err, &fault) {
		return fault.at
	}
	return 0
}

// RunesOf returns the characters of a string, or the offset and the code of
// the first invalid one.
func RunesOf(t string) ([]int, int, int) {
	if len(t) > MaxText {
		return nil, 0, ErrLong
	}
	list, err := runesIn(t)
	if err != nil {
		return nil, faultOffset(err), faultCode(err)
	}
	if len(list) > MaxList {
		return nil, 0, ErrMany
	}
	return list, 0, OK
}

func runesIn(t string) ([]int, error) {
	var list []int
	for at, r := range t {
		// The range yields RuneError for an invalid sequence, but also for the
		// encoding of that character.
		if r == utf8.RuneError {
			if _, _, err := runeAt(t, at); err != nil {
				return nil, err
			}
		}
		list = append(list, int(r))
	}
	return list, nil
}

// TextOf returns the UTF-8 encoding of characters.
func TextOf(list []int) (string, int) {
	if len(list) > MaxList {
		return "", ErrLong
	}
	var text strings.Builder
	for _, r := range list {
		if !RuneOK(r) {
			return "", ErrRange
		}
		text.WriteRune(rune(r))
	}
	return text.String(), OK
}

// HexOf returns two hexadecimal digits for each byte.
func HexOf(t string) string {
	if len(t) > MaxText/2 {
		return ""
	}
	var hex strings.Builder
	for i := range len(t) {
		hex.WriteByte(hexDigits[t[i]>>4])
		hex.WriteByte(hexDigits[t[i]&15])
	}
	return hex.String()
}

// BytesOf returns the bytes of which t is the result of HexOf.
func BytesOf(t string) (string, int) {
	if len(t) > MaxText {
		return "", ErrLong
	}
	return bytesIn(t)
}

// bytesIn is BytesOf without a limit on the length of t.
func bytesIn(t string) (string, int) {
	if len(t)%2 != 0 {
		return "", ErrForm
	}
	var text strings.Builder
	for i := 0; i < len(t); i += 2 {
		high := strings.IndexByte(hexDigits, t[i])
		low := strings.IndexByte(hexDigits, t[i+1])
		if high < 0 || low < 0 {
			return "", ErrForm
		}
		text.WriteByte(byte(high<<4 + low))
	}
	return text.String(), OK
}
