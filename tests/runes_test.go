package tests

import (
	"encoding/hex"
	"math"
	"slices"
	"strings"
	"testing"
	"unicode/utf8"

	"loop.example/g00748/impl"
)

var notCharacters = []int{math.MinInt, math.MinInt32, -1114111, -65, -1, 55296, 55297, 56319, 56320, 57343,
	1114112, 1114113, 2097151, math.MaxInt32, 1 << 32, 1<<32 + 65, math.MaxInt}

// P2: every character is recovered from its UTF-8, alone and inside a string.
func TestEveryCharacterIsRecovered(t *testing.T) {
	if impl.MaxRune != 1114111 {
		t.Fatal("MaxRune", impl.MaxRune)
	}
	for r := 0; r <= 1114111; r++ {
		want := r < 55296 || r > 57343
		if impl.RuneOK(r) != want {
			t.Fatalf("RuneOK(%d) = %v", r, !want)
		}
		s, code := impl.PutRune(r)
		if !want {
			if s != "" || code != impl.ErrRange {
				t.Fatalf("PutRune(%d) = %q, %d", r, s, code)
			}
			continue
		}
		if code != impl.OK || s != string(utf8.AppendRune(nil, rune(r))) {
			t.Fatalf("PutRune(%d) = %x, %d", r, s, code)
		}
		if got, next, code := impl.TakeRune(s, 0); got != r || next != len(s) || code != impl.OK {
			t.Fatalf("TakeRune of %d = %d, %d, %d", r, got, next, code)
		}
		in := "\x80" + s + "\xc2"
		if got, next, code := impl.TakeRune(in, 1); got != r || next != 1+len(s) || code != impl.OK {
			t.Fatalf("TakeRune of %d inside a string = %d, %d, %d", r, got, next, code)
		}
		if list, at, code := impl.RunesOf(s); code != impl.OK || at != 0 || len(list) != 1 || list[0] != r {
			t.Fatalf("RunesOf of %d = %v, %d, %d", r, list, at, code)
		}
	}
}

func TestWhatIsNoCharacterIsOutOfRange(t *testing.T) {
	for _, r := range notCharacters {
		if impl.RuneOK(r) {
			t.Errorf("RuneOK(%d) = true", r)
		}
		if s, code := impl.PutRune(r); s != "" || code != impl.ErrRange {
			t.Errorf("PutRune(%d) = %x, %d", r, s, code)
		}
		for _, list := range [][]int{{r}, {65, r}, {r, 65}, {65, r, r, 66}} {
			if s, code := impl.TextOf(list); s != "" || code != impl.ErrRange {
				t.Errorf("TextOf(%v) = %x, %d", list, s, code)
			}
		}
	}
}

func checkTake(t *testing.T, s string, at, r, next, code int) {
	t.Helper()
	if gr, gn, gc := impl.TakeRune(s, at); gr != r || gn != next || gc != code {
		t.Errorf("TakeRune(%x, %d) = %d, %d, %d, want %d, %d, %d", s, at, gr, gn, gc, r, next, code)
	}
}

// The codes of TakeRune, each with all other results zero.
func TestTakeRuneReportsTheFirstErrorInOrder(t *testing.T) {
	for _, v := range []struct {
		s        string
		at, code int
	}{
		// an offset outside the string comes before the bytes of the string
		{"", 0, impl.ErrSize}, {"", -1, impl.ErrSize}, {"", 1, impl.ErrSize}, {"a", 1, impl.ErrSize},
		{"\xff", 1, impl.ErrSize}, {"\xff", -1, impl.ErrSize}, {"\xc2", 1, impl.ErrSize},
		{"ab", math.MaxInt, impl.ErrSize}, {"ab", math.MinInt, impl.ErrSize}, {"ab", 1 << 32, impl.ErrSize},
		// a byte with which no sequence starts, before the end of the string
		{"\x80", 0, impl.ErrUtf}, {"\xbf", 0, impl.ErrUtf}, {"\xf8", 0, impl.ErrUtf}, {"\xff", 0, impl.ErrUtf},
		{"\xf8\x88\x80\x80\x80", 0, impl.ErrUtf}, {"\xfc\x84\x80\x80\x80\x80", 0, impl.ErrUtf}, {"\xe3\x81\x82", 1, impl.ErrUtf},
		// truncated sequences, also those that could not become a character any more
		{"\xc2", 0, impl.ErrShort}, {"\xdf", 0, impl.ErrShort}, {"\xc0", 0, impl.ErrShort}, {"\xc1", 0, impl.ErrShort},
		{"\xe0", 0, impl.ErrShort}, {"\xe3\x81", 0, impl.ErrShort}, {"\xe0\x80", 0, impl.ErrShort}, {"\xed\xa0", 0, impl.ErrShort},
		{"\xf0", 0, impl.ErrShort}, {"\xf0\x9f", 0, impl.ErrShort}, {"\xf0\x9f\x98", 0, impl.ErrShort},
		{"\xf0\x80\x80", 0, impl.ErrShort}, {"\xf4\x90", 0, impl.ErrShort}, {"\xf5", 0, impl.ErrShort}, {"\xf7\xbf\xbf", 0, impl.ErrShort},
		// a byte that continues nothing, before the end of the string
		{"\xc2a", 0, impl.ErrUtf}, {"\xc2\x7f", 0, impl.ErrUtf}, {"\xc2\xc0", 0, impl.ErrUtf}, {"\xe3a", 0, impl.ErrUtf},
		{"\xe3\x81a", 0, impl.ErrUtf}, {"\xf0a", 0, impl.ErrUtf}, {"\xf0\x9fa", 0, impl.ErrUtf}, {"\xf0\x9f\x98a", 0, impl.ErrUtf},
		{"\xf0\x9f\xff", 0, impl.ErrUtf}, {"\xe3\xe3\x81\x82", 0, impl.ErrUtf},
		// overlong forms: the first and the last of each length
		{"\xc0\x80", 0, impl.ErrUtf}, {"\xc0\xaf", 0, impl.ErrUtf}, {"\xc1\xbf", 0, impl.ErrUtf},
		{"\xe0\x80\x80", 0, impl.ErrUtf}, {"\xe0\x81\x81", 0, impl.ErrUtf}, {"\xe0\x9f\xbf", 0, impl.ErrUtf},
		{"\xf0\x80\x80\x80", 0, impl.ErrUtf}, {"\xf0\x82\x82\xac", 0, impl.ErrUtf}, {"\xf0\x8f\xbf\xbf", 0, impl.ErrUtf},
		// surrogates
		{"\xed\xa0\x80", 0, impl.ErrUtf}, {"\xed\xaf\xbf", 0, impl.ErrUtf}, {"\xed\xb0\x80", 0, impl.ErrUtf}, {"\xed\xbf\xbf", 0, impl.ErrUtf},
		// numbers above MaxRune
		{"\xf4\x90\x80\x80", 0, impl.ErrUtf}, {"\xf5\x80\x80\x80", 0, impl.ErrUtf}, {"\xf7\xbf\xbf\xbf", 0, impl.ErrUtf},
	} {
		checkTake(t, v.s, v.at, 0, 0, v.code)
		if v.code != impl.ErrSize {
			checkTake(t, "\xe3\x81\x82"+v.s, v.at+3, 0, 0, v.code)
		}
	}
}

func TestTakeRuneAtTheLimitsOfALength(t *testing.T) {
	for _, v := range []struct {
		s string
		r int
	}{
		{"\x00", 0}, {"\x7f", 127}, {"\xc2\x80", 128}, {"\xdf\xbf", 2047}, {"\xe0\xa0\x80", 2048}, {"\xed\x9f\xbf", 55295},
		{"\xee\x80\x80", 57344}, {"\xef\xbf\xbd", 65533}, {"\xef\xbf\xbf", 65535}, {"\xf0\x90\x80\x80", 65536}, {"\xf4\x8f\xbf\xbf", 1114111},
	} {
		checkTake(t, v.s, 0, v.r, len(v.s), impl.OK)
		checkTake(t, "a"+v.s+"\xff", 1, v.r, 1+len(v.s), impl.OK)
	}
}

// takeByDocument follows chapter 2 sentence by sentence; that the bytes are
// the encoding of a character is decided by the standard library.
func takeByDocument(s string, at int) (int, int, int) {
	if at < 0 || at > len(s)-1 {
		return 0, 0, impl.ErrSize
	}
	first := s[at]
	if first >= 128 && first <= 191 || first >= 248 {
		return 0, 0, impl.ErrUtf
	}
	need := 0
	for _, from := range []byte{192, 224, 240} {
		if first >= from {
			need++
		}
	}
	for i := 1; i <= need; i++ {
		if at+i >= len(s) {
			return 0, 0, impl.ErrShort
		}
		if s[at+i] < 128 || s[at+i] > 191 {
			return 0, 0, impl.ErrUtf
		}
	}
	if !utf8.ValidString(s[at : at+1+need]) {
		return 0, 0, impl.ErrUtf
	}
	r, _ := utf8.DecodeRuneInString(s[at:])
	return int(r), at + 1 + need, impl.OK
}

func runesByDocument(s string) ([]int, int, int) {
	var list []int
	for at := 0; at < len(s); {
		r, next, code := takeByDocument(s, at)
		if code != impl.OK {
			return nil, at, code
		}
		list = append(list, r)
		at = next
	}
	return list, 0, impl.OK
}

func compareWithDocument(t *testing.T, s string) {
	t.Helper()
	for at := -1; at <= len(s); at++ {
		r, next, code := takeByDocument(s, at)
		checkTake(t, s, at, r, next, code)
	}
	list, at, code := runesByDocument(s)
	if gl, ga, gc := impl.RunesOf(s); !slices.Equal(gl, list) || ga != at || gc != code {
		t.Errorf("RunesOf(%x) = %v, %d, %d, want %v, %d, %d", s, gl, ga, gc, list, at, code)
	}
}

// The bytes at which a rule of chapter 2 changes, on both sides.
var edgeBytes = []byte{0, 65, 127, 128, 143, 144, 159, 160, 189, 191, 192, 193, 194, 223, 224, 225, 236, 237, 238, 239, 240, 241, 244, 245, 247, 248, 255}

func TestShortStringsAreDecodedAsDocumented(t *testing.T) {
	for a := range 256 {
		compareWithDocument(t, string([]byte{byte(a)}))
		for b := range 256 {
			compareWithDocument(t, string([]byte{byte(a), byte(b)}))
		}
	}
	for _, a := range edgeBytes {
		for _, b := range edgeBytes {
			for _, c := range edgeBytes {
				compareWithDocument(t, string([]byte{a, b, c}))
				for _, d := range edgeBytes {
					compareWithDocument(t, string([]byte{a, b, c, d}))
				}
			}
			if t.Failed() {
				return
			}
		}
	}
}

func TestRunesOfReportsTheFirstInvalidCharacter(t *testing.T) {
	long := strings.Repeat("a", 5000)
	for _, v := range []struct {
		s        string
		at, code int
	}{
		{"\xff", 0, impl.ErrUtf}, {"ab\xff", 2, impl.ErrUtf}, {"ab\xffcd\xc2", 2, impl.ErrUtf}, {"\xe3\x81\x82\xe3\x81", 3, impl.ErrShort},
		{"\xf0\x9f\x98\x80\xf0\x9f\x98", 4, impl.ErrShort}, {"a\xc2b\xff", 1, impl.ErrUtf}, {"a\xc0\x80", 1, impl.ErrUtf},
		{"a\xe0\x80", 1, impl.ErrShort}, {"ab\xe0\x80\x80", 2, impl.ErrUtf}, {"a\xed\xa0\x80\xed\xb0\x80", 1, impl.ErrUtf},
		{"\xf4\x8f\xbf\xbf\xf4\x90\x80\x80", 4, impl.ErrUtf}, {"\xef\xbf\xbd\xef\xbf", 3, impl.ErrShort}, {"\xef\xbf\xbd\x80", 3, impl.ErrUtf},
		// an invalid character comes before ErrMany, wherever it is
		{long + "\xff", 5000, impl.ErrUtf}, {long + "\xe3\x81", 5000, impl.ErrShort}, {"\xff" + long, 0, impl.ErrUtf},
		{strings.Repeat("a", impl.MaxText-1) + "\xc2", impl.MaxText - 1, impl.ErrShort},
	} {
		if list, at, code := impl.RunesOf(v.s); len(list) != 0 || at != v.at || code != v.code {
			t.Errorf("RunesOf(%.20x) = %d characters, %d, %d, want %d, %d", v.s, len(list), at, code, v.at, v.code)
		}
	}
}

func TestTheReplacementCharacterIsACharacter(t *testing.T) {
	if impl.Missing != 65533 {
		t.Error("Missing", impl.Missing)
	}
	list, at, code := impl.RunesOf("\xef\xbf\xbda\xef\xbf\xbd")
	if !slices.Equal(list, []int{65533, 97, 65533}) || at != 0 || code != impl.OK {
		t.Error("RunesOf", list, at, code)
	}
}

func TestTheNumberOfCharactersIsLimited(t *testing.T) {
	for _, v := range []struct {
		s           string
		count, code int
	}{
		{"", 0, impl.OK},
		{strings.Repeat("a", impl.MaxList), impl.MaxList, impl.OK},
		{strings.Repeat("a", impl.MaxList+1), 0, impl.ErrMany},
		{strings.Repeat("\xf0\x9f\x98\x80", impl.MaxList), impl.MaxList, impl.OK},
		{strings.Repeat("\xf0\x9f\x98\x80", impl.MaxList+1), 0, impl.ErrMany},
		{strings.Repeat("\x00", impl.MaxText), 0, impl.ErrMany},
		{strings.Repeat("\x00", impl.MaxText+1), 0, impl.ErrLong},
		{strings.Repeat("\xff", impl.MaxText+1), 0, impl.ErrLong},
		{"a" + strings.Repeat("\xff", impl.MaxText), 0, impl.ErrLong},
	} {
		if list, at, code := impl.RunesOf(v.s); len(list) != v.count || at != 0 || code != v.code {
			t.Errorf("RunesOf of %d bytes = %d characters, %d, %d", len(v.s), len(list), at, code)
		}
	}
}

func TestTakeRuneIsLimitedToMaxTextBytes(t *testing.T) {
	full := strings.Repeat("a", impl.MaxText-1) + "b"
	checkTake(t, full, impl.MaxText-1, 98, impl.MaxText, impl.OK)
	checkTake(t, full, impl.MaxText, 0, 0, impl.ErrSize)
	for _, at := range []int{0, 1, impl.MaxText, impl.MaxText + 1, -1, math.MaxInt, math.MinInt} {
		checkTake(t, full+"c", at, 0, 0, impl.ErrLong)
		checkTake(t, strings.Repeat("\xff", impl.MaxText+1), at, 0, 0, impl.ErrLong)
	}
}

func TestTextOfIsInvertedByRunesOf(t *testing.T) {
	every := make([]int, 0, impl.MaxList)
	for r := 0; len(every) < impl.MaxList; r += 271 {
		if r < 55296 || r > 57343 {
			every = append(every, r)
		}
	}
	if every[len(every)-1] > impl.MaxRune {
		t.Fatal("the list leaves the range of characters")
	}
	for _, list := range [][]int{{}, {0}, {65, 12354, 128512}, {127, 128, 2047, 2048, 65535, 65536, 1114111}, {65533, 55295, 57344}, every} {
		want := make([]byte, 0, 4*len(list))
		for _, r := range list {
			want = utf8.AppendRune(want, rune(r))
		}
		s, code := impl.TextOf(list)
		if s != string(want) || code != impl.OK {
			t.Errorf("TextOf of %d characters: %d", len(list), code)
		}
		if back, at, code := impl.RunesOf(s); !slices.Equal(back, list) || at != 0 || code != impl.OK {
			t.Errorf("RunesOf of TextOf of %d characters: %d, %d", len(list), at, code)
		}
	}
}

func TestTextOfIsLimitedToMaxListElements(t *testing.T) {
	full := make([]int, impl.MaxList)
	if s, code := impl.TextOf(full); len(s) != impl.MaxList || code != impl.OK {
		t.Error("TextOf", len(s), code)
	}
	for _, last := range []int{0, -1, 55296} {
		if s, code := impl.TextOf(append(slices.Clone(full), last)); s != "" || code != impl.ErrLong {
			t.Error("TextOf", len(s), code)
		}
	}
	if s, code := impl.TextOf(nil); s != "" || code != impl.OK {
		t.Error("TextOf(nil)", s, code)
	}
}

func TestHexOfIsInvertedByBytesOf(t *testing.T) {
	all := make([]byte, 256)
	for i := range all {
		all[i] = byte(i)
	}
	for _, s := range []string{"", "\x00", "\xff", "\x0f\xf0", "\x1b$B", string(all), strings.Repeat("\xa5", impl.MaxText/2)} {
		want := hex.EncodeToString([]byte(s))
		if got := impl.HexOf(s); got != want {
			t.Errorf("HexOf of %d bytes = %.40s", len(s), got)
		}
		if back, code := impl.BytesOf(want); back != s || code != impl.OK {
			t.Errorf("BytesOf of %d digits = %d bytes, %d", len(want), len(back), code)
		}
	}
}

func TestHexOfIsEmptyAboveHalfOfMaxText(t *testing.T) {
	for _, n := range []int{impl.MaxText/2 + 1, impl.MaxText, impl.MaxText + 1} {
		if s := impl.HexOf(strings.Repeat("a", n)); s != "" {
			t.Errorf("HexOf of %d bytes has %d digits", n, len(s))
		}
	}
}

func TestBytesOfAcceptsOnlyPairsOfLowerCaseDigits(t *testing.T) {
	digits := nameDigits + "abcdef"
	for a := range 256 {
		for b := range 256 {
			s := string([]byte{byte(a), byte(b)})
			high, low := strings.IndexByte(digits, byte(a)), strings.IndexByte(digits, byte(b))
			want, wantCode := "", impl.ErrForm
			if high >= 0 && low >= 0 {
				want, wantCode = string([]byte{byte(16*high + low)}), impl.OK
			}
			if got, code := impl.BytesOf(s); got != want || code != wantCode {
				t.Errorf("BytesOf(%q) = %x, %d", s, got, code)
			}
		}
	}
	for _, s := range []string{"0", "000", "0g", "00FF", "0A", "0x00", "00 ff", " 00", "00\n", "-", "00ffg", "0\xff", "\u0661\u0661",
		strings.Repeat("0", impl.MaxText-1), strings.Repeat("0", impl.MaxText-1) + "g"} {
		if got, code := impl.BytesOf(s); got != "" || code != impl.ErrForm {
			t.Errorf("BytesOf(%.20q) = %d bytes, %d", s, len(got), code)
		}
	}
}

func TestBytesOfIsLimitedToMaxTextBytes(t *testing.T) {
	if s, code := impl.BytesOf(strings.Repeat("7", impl.MaxText)); s != strings.Repeat("w", impl.MaxText/2) || code != impl.OK {
		t.Error("BytesOf", len(s), code)
	}
	for _, d := range []string{"0", "00", "g"} {
		if s, code := impl.BytesOf(strings.Repeat("0", impl.MaxText) + d); s != "" || code != impl.ErrLong {
			t.Error("BytesOf", len(s), code)
		}
	}
}
