package tests

import (
	"math"
	"strings"
	"testing"

	"loop.example/g00748/impl"
)

// The table of chapter 1, in the order of the numbers.
var codeTable = []struct {
	code int
	word string
}{
	{impl.OK, "ok"}, {impl.ErrBad, "bad"}, {impl.ErrLong, "long"}, {impl.ErrForm, "form"},
	{impl.ErrRange, "range"}, {impl.ErrNone, "none"}, {impl.ErrMany, "many"}, {impl.ErrFull, "full"},
	{impl.ErrSize, "size"}, {impl.ErrKind, "kind"}, {impl.ErrEscape, "escape"}, {impl.ErrForbidden, "forbidden"},
	{impl.ErrUnmapped, "unmapped"}, {impl.ErrShort, "short"}, {impl.ErrReset, "reset"}, {impl.ErrHeader, "header"},
	{impl.ErrUtf, "utf"}, {impl.ErrState, "state"}, {impl.ErrSame, "same"},
}

func TestCodesHaveTheirNumbersAndWords(t *testing.T) {
	if len(codeTable) != 19 {
		t.Fatal("codes", len(codeTable))
	}
	for n, row := range codeTable {
		if row.code != n {
			t.Errorf("the code %s is %d, want %d", row.word, row.code, n)
		}
		if w := impl.CodeWord(n); w != row.word {
			t.Errorf("CodeWord(%d) = %q, want %q", n, w, row.word)
		}
		if c := impl.CodeOf(row.word); c != n {
			t.Errorf("CodeOf(%q) = %d, want %d", row.word, c, n)
		}
	}
}

func TestCodeWordOfAnyOtherNumberIsEmpty(t *testing.T) {
	for _, n := range []int{math.MinInt, math.MinInt32, -19, -1, 19, 20, 256, math.MaxInt32, math.MaxInt} {
		if w := impl.CodeWord(n); w != "" {
			t.Errorf("CodeWord(%d) = %q", n, w)
		}
	}
}

func TestCodeOfAnyOtherStringIsMinusOne(t *testing.T) {
	words := []string{"", "x", "OK", "Bad", " ok", "ok ", "ok\x00", "o", "longs", "lon", "okbad", "0", "-1", "\xff",
		strings.Repeat("a", impl.MaxText), strings.Repeat("a", impl.MaxText+1),
		"ok" + strings.Repeat(" ", impl.MaxText)}
	for _, w := range words {
		if c := impl.CodeOf(w); c != -1 {
			t.Errorf("CodeOf(%.20q) = %d, want -1", w, c)
		}
	}
}

// The bytes of names, spelled out so that no range of the program is repeated here.
const (
	nameLetters = "abcdefghijklmnopqrstuvwxyzABCDEFGHIJKLMNOPQRSTUVWXYZ_"
	nameDigits  = "0123456789"
)

func TestNamesOfOneAndTwoBytes(t *testing.T) {
	for a := range 256 {
		one := string([]byte{byte(a)})
		first := strings.Contains(nameLetters, one)
		if got := impl.NameOK(one); got != first {
			t.Errorf("NameOK(%q) = %v", one, got)
		}
		for b := range 256 {
			two := string([]byte{byte(a), byte(b)})
			want := first && strings.Contains(nameLetters+nameDigits, two[1:])
			if got := impl.NameOK(two); got != want {
				t.Errorf("NameOK(%q) = %v", two, got)
			}
		}
	}
}

func TestNamesAreLimitedToMaxNameBytes(t *testing.T) {
	if impl.MaxName != 12 || impl.MaxText != 65536 || impl.MaxList != 4096 {
		t.Error("limits", impl.MaxName, impl.MaxText, impl.MaxList)
	}
	for n := range 30 {
		name := strings.Repeat("z", n)
		if got, want := impl.NameOK(name), n >= 1 && n <= 12; got != want {
			t.Errorf("NameOK of %d bytes = %v", n, got)
		}
	}
	for _, name := range []string{"A23456789012", "____________", "kana"} {
		if !impl.NameOK(name) {
			t.Errorf("NameOK(%q) = false", name)
		}
	}
	for _, name := range []string{"A234567890123", "9", "a b", "a-b", "a\n", "\u00e9", "a\u00e9", "\uff41", "a\xff", "a\x00",
		strings.Repeat("a", impl.MaxText), strings.Repeat("a", impl.MaxText+1)} {
		if impl.NameOK(name) {
			t.Errorf("NameOK(%.20q) = true", name)
		}
	}
}
