package tests

import (
	"fmt"
	"math"
	"math/rand"
	"regexp"
	"slices"
	"strings"
	"testing"

	"loop.example/g00748/impl"
)

func newToken(kind, a, b, c, at, length int) impl.Token {
	return impl.Token{Kind: kind, A: a, B: b, C: c, At: at, Len: length}
}

// checkTokens checks all tokens of a string, and each of them at its offset.
func checkTokens(t *testing.T, s string, want ...impl.Token) {
	t.Helper()
	list, code := impl.TokensOf(s)
	if code != impl.OK || !slices.Equal(list, want) {
		t.Errorf("TokensOf(%q) = %v, %d, want %v", s, list, code, want)
	}
	for _, x := range want {
		checkNext(t, s, x)
	}
}

func checkNext(t *testing.T, s string, want impl.Token) {
	t.Helper()
	if x, code := impl.NextToken(s, want.At); x != want || code != impl.OK {
		t.Errorf("NextToken(%q, %d) = %v, %d, want %v", s, want.At, x, code, want)
	}
}

func TestConstantsOfTokens(t *testing.T) {
	for i, kind := range []int{impl.TkControl, impl.TkSpace, impl.TkLeft, impl.TkRight, impl.TkShift, impl.TkSingle, impl.TkName, impl.TkTail, impl.TkOther} {
		if kind != i+1 {
			t.Errorf("the kind %d has the number %d", i+1, kind)
		}
	}
}

// The table of kinds for bytes: the kind and A of every byte but ESC.
func kindsOfBytes() map[byte][2]int {
	kinds := map[byte][2]int{14: {5, 1}, 15: {5, 0}, 32: {2, 0}, 142: {6, 2}, 143: {6, 3}}
	enter := func(first, last, kind, less int) {
		for b := first; b <= last; b++ {
			if _, ok := kinds[byte(b)]; !ok && b != 27 {
				kinds[byte(b)] = [2]int{kind, b - less}
			}
		}
	}
	enter(0, 31, 1, 0)
	enter(33, 126, 3, 0)
	enter(127, 159, 1, 0)
	enter(160, 255, 4, 128)
	return kinds
}

// P4: every single byte is one token, alone and between others.
func TestEverySingleByte(t *testing.T) {
	kinds := kindsOfBytes()
	if len(kinds) != 255 {
		t.Fatal("bytes in the table", len(kinds))
	}
	for b, v := range kinds {
		s := string([]byte{b})
		checkTokens(t, s, newToken(v[0], v[1], 0, 0, 0, 1))
		checkTokens(t, "("+s+"\xc2", newToken(3, 40, 0, 0, 0, 1), newToken(v[0], v[1], 0, 0, 1, 1), newToken(4, 66, 0, 0, 2, 1))
		checkTokens(t, s+s, newToken(v[0], v[1], 0, 0, 0, 1), newToken(v[0], v[1], 0, 0, 1, 1))
	}
	checkTokens(t, "\x1b", newToken(impl.TkTail, 0, 0, 0, 0, 1))
}

func TestOrdinaryTokensOfEveryKind(t *testing.T) {
	checkTokens(t, "")
	checkTokens(t, "A\t\x1b$B$\"\x1b(B z\r\n",
		newToken(impl.TkLeft, 65, 0, 0, 0, 1), newToken(impl.TkControl, 9, 0, 0, 1, 1), newToken(impl.TkName, 0, impl.KindPair, 66, 2, 3),
		newToken(impl.TkLeft, 36, 0, 0, 5, 1), newToken(impl.TkLeft, 34, 0, 0, 6, 1), newToken(impl.TkName, 0, impl.Kind94, 66, 7, 3),
		newToken(impl.TkSpace, 0, 0, 0, 10, 1), newToken(impl.TkLeft, 122, 0, 0, 11, 1), newToken(impl.TkControl, 13, 0, 0, 12, 1), newToken(impl.TkControl, 10, 0, 0, 13, 1))
	checkTokens(t, "\x1b.A\x1bNa\x8eb\x1bOc\x8f\xe4",
		newToken(impl.TkName, 2, impl.Kind96, 65, 0, 3), newToken(impl.TkSingle, 2, 0, 0, 3, 2), newToken(impl.TkLeft, 97, 0, 0, 5, 1),
		newToken(impl.TkSingle, 2, 0, 0, 6, 1), newToken(impl.TkLeft, 98, 0, 0, 7, 1), newToken(impl.TkSingle, 3, 0, 0, 8, 2),
		newToken(impl.TkLeft, 99, 0, 0, 10, 1), newToken(impl.TkSingle, 3, 0, 0, 11, 1), newToken(impl.TkRight, 100, 0, 0, 12, 1))
	checkTokens(t, "\x1b$)C\x0e0!\x0f\x1bn\x1bo",
		newToken(impl.TkName, 1, impl.KindPair, 67, 0, 4), newToken(impl.TkShift, 1, 0, 0, 4, 1), newToken(impl.TkLeft, 48, 0, 0, 5, 1),
		newToken(impl.TkLeft, 33, 0, 0, 6, 1), newToken(impl.TkShift, 0, 0, 0, 7, 1), newToken(impl.TkShift, 2, 0, 0, 8, 2), newToken(impl.TkShift, 3, 0, 0, 10, 2))
	checkTokens(t, "\x1bc\x1b%G\x1b !0\x80\x1b$(",
		newToken(impl.TkOther, 0, 0, 0, 0, 2), newToken(impl.TkOther, 0, 0, 0, 2, 3), newToken(impl.TkOther, 0, 0, 0, 5, 4),
		newToken(impl.TkControl, 128, 0, 0, 9, 1), newToken(impl.TkTail, 0, 0, 0, 10, 3))
}

// intermediates lists all strings of n intermediate bytes.
func intermediates(n int) []string {
	list := []string{""}
	for range n {
		var longer []string
		for _, s := range list {
			for b := byte(32); b <= 47; b++ {
				longer = append(longer, s+string(rune(b)))
			}
		}
		list = longer
	}
	return list
}

// Behind ESC and behind each intermediate byte.
func TestTruncatedEscapeSequences(t *testing.T) {
	for n := 0; n <= 3; n++ {
		for _, between := range intermediates(n) {
			s := "\x1b" + between
			checkTokens(t, s, newToken(impl.TkTail, 0, 0, 0, 0, 1+n))
			checkTokens(t, "\xa1"+s, newToken(impl.TkRight, 33, 0, 0, 0, 1), newToken(impl.TkTail, 0, 0, 0, 1, 1+n))
			checkTokens(t, "\x1b(B"+s, newToken(impl.TkName, 0, 1, 66, 0, 3), newToken(impl.TkTail, 0, 0, 0, 3, 1+n))
		}
	}
}

// Also at the end of the string, where four bytes would still be truncated.
func TestAFourthIntermediateByteEndsTheSequence(t *testing.T) {
	for _, between := range intermediates(3) {
		for fourth := byte(32); fourth <= 47; fourth++ {
			s := "\x1b" + between + string(rune(fourth))
			checkTokens(t, s, newToken(impl.TkOther, 0, 0, 0, 0, 5))
		}
		if t.Failed() {
			return
		}
	}
	checkTokens(t, "\x1b$(B\x1b$(((B", newToken(impl.TkName, 0, 3, 66, 0, 4), newToken(impl.TkOther, 0, 0, 0, 4, 5), newToken(impl.TkLeft, 66, 0, 0, 9, 1))
	checkTokens(t, "\x1b    ((", newToken(impl.TkOther, 0, 0, 0, 0, 5), newToken(impl.TkLeft, 40, 0, 0, 5, 1), newToken(impl.TkLeft, 40, 0, 0, 6, 1))
	checkTokens(t, "\x1b////\x1b////", newToken(impl.TkOther, 0, 0, 0, 0, 5), newToken(impl.TkOther, 0, 0, 0, 5, 5))
}

// A byte that is neither an intermediate nor a final byte begins the next token.
func TestBytesThatEndASequenceTooEarly(t *testing.T) {
	kinds := kindsOfBytes()
	for n := 0; n <= 3; n++ {
		for _, between := range intermediates(n) {
			for _, b := range []byte{0, 10, 14, 15, 26, 28, 31, 127, 128, 142, 143, 159, 160, 255} {
				s := "\x1b" + between + string([]byte{b})
				checkTokens(t, s, newToken(impl.TkOther, 0, 0, 0, 0, 1+n), newToken(kinds[b][0], kinds[b][1], 0, 0, 1+n, 1))
			}
			checkTokens(t, "\x1b"+between+"\x1b", newToken(impl.TkOther, 0, 0, 0, 0, 1+n), newToken(impl.TkTail, 0, 0, 0, 1+n, 1))
			checkTokens(t, "\x1b"+between+"\x1b(B", newToken(impl.TkOther, 0, 0, 0, 0, 1+n), newToken(impl.TkName, 0, 1, 66, 1+n, 3))
		}
	}
	for b, v := range kinds {
		if b < 32 || b > 126 {
			for n := 0; n <= 3; n++ {
				s := "\x1b" + "$()"[:n] + string([]byte{b})
				checkTokens(t, s+"B", newToken(impl.TkOther, 0, 0, 0, 0, 1+n), newToken(v[0], v[1], 0, 0, 1+n, 1), newToken(impl.TkLeft, 66, 0, 0, 2+n, 1))
			}
		}
	}
}

// The register and the kind of each combination of intermediate bytes that designates.
var designations = map[string][2]int{
	"(": {0, impl.Kind94}, ")": {1, impl.Kind94}, "*": {2, impl.Kind94}, "+": {3, impl.Kind94},
	"-": {1, impl.Kind96}, ".": {2, impl.Kind96}, "/": {3, impl.Kind96},
	"$(": {0, impl.KindPair}, "$)": {1, impl.KindPair}, "$*": {2, impl.KindPair}, "$+": {3, impl.KindPair},
	"$": {0, impl.KindPair},
}

// meaningByDocument returns the token of a complete escape sequence.
func meaningByDocument(between string, final byte) impl.Token {
	length := 2 + len(between)
	switch "\x1b" + between + string(rune(final)) {
	case "\x1bn":
		return newToken(impl.TkShift, 2, 0, 0, 0, length)
	case "\x1bo":
		return newToken(impl.TkShift, 3, 0, 0, 0, length)
	case "\x1bN":
		return newToken(impl.TkSingle, 2, 0, 0, 0, length)
	case "\x1bO":
		return newToken(impl.TkSingle, 3, 0, 0, 0, length)
	}
	v, ok := designations[between]
	if !ok || final < 64 || between == "$" && final > 66 {
		return newToken(impl.TkOther, 0, 0, 0, 0, length)
	}
	return newToken(impl.TkName, v[0], v[1], int(final), 0, length)
}

// P4: every combination of intermediate bytes with every final byte is one token.
func TestEveryEscapeSequenceIsOneToken(t *testing.T) {
	for n := 0; n <= 3; n++ {
		for _, between := range intermediates(n) {
			for final := byte(48); final <= 126; final++ {
				s := "\x1b" + between + string(rune(final))
				checkTokens(t, s, meaningByDocument(between, final))
			}
			if t.Failed() {
				return
			}
		}
	}
}

// The limits of final bytes, written out.
func TestFinalBytesAtTheirLimits(t *testing.T) {
	other := func(s string) { t.Helper(); checkTokens(t, s, newToken(impl.TkOther, 0, 0, 0, 0, len(s))) }
	name := func(s string, a, b, c int) {
		t.Helper()
		checkTokens(t, s, newToken(impl.TkName, a, b, c, 0, len(s)))
		checkTokens(t, s+"(", newToken(impl.TkName, a, b, c, 0, len(s)), newToken(impl.TkLeft, 40, 0, 0, len(s), 1))
	}
	for between, v := range designations {
		for _, final := range []string{"0", "1", "9", ":", "?"} {
			other("\x1b" + between + final)
		}
		for final := 64; final <= 66; final++ {
			name("\x1b"+between+string(rune(final)), v[0], v[1], final)
		}
		if between != "$" {
			for _, final := range []int{67, 78, 79, 110, 111, 125, 126} {
				name("\x1b"+between+string(rune(final)), v[0], v[1], final)
			}
		}
	}
	for _, s := range []string{"\x1b0", "\x1b?", "\x1b@", "\x1b~", "\x1bM", "\x1bP", "\x1bm", "\x1bp", "\x1b$0", "\x1b$?", "\x1b$C", "\x1b$N", "\x1b$n", "\x1b$~",
		"\x1b B", "\x1b!B", "\x1b\"B", "\x1b#B", "\x1b%B", "\x1b&B", "\x1b'B", "\x1b,B", "\x1b N", "\x1b n",
		"\x1b$ B", "\x1b$$B", "\x1b$'B", "\x1b$,B", "\x1b$-A", "\x1b$.A", "\x1b$/A", "\x1b($B", "\x1b)$B", "\x1b((B", "\x1b-.A", "\x1b (B", "\x1b$((B", "\x1b$$(B", "\x1b$()A"} {
		other(s)
	}
	for between := range designations {
		checkTokens(t, "\x1b"+between+"\x7f", newToken(impl.TkOther, 0, 0, 0, 0, 1+len(between)), newToken(impl.TkControl, 127, 0, 0, 1+len(between), 1))
	}
}

// The shapes of what begins with ESC: only the first one is complete.
var (
	completeShape = regexp.MustCompile(`^\x1b([ -/]{0,3})([0-~])`)
	tooManyShape  = regexp.MustCompile(`^\x1b[ -/]{4}`)
	tailShape     = regexp.MustCompile(`^\x1b[ -/]{0,3}$`)
	brokenShape   = regexp.MustCompile(`^\x1b[ -/]{0,3}`)
)

// tokenByDocument returns the token at an offset, as chapter 4 describes it.
func tokenByDocument(kinds map[byte][2]int, s string, at int) impl.Token {
	if v, ok := kinds[s[at]]; ok {
		return newToken(v[0], v[1], 0, 0, at, 1)
	}
	rest := s[at:min(at+8, len(s))]
	x := newToken(impl.TkOther, 0, 0, 0, 0, len(brokenShape.FindString(rest)))
	if m := completeShape.FindStringSubmatch(rest); m != nil {
		x = meaningByDocument(m[1], m[2][0])
	} else if tooManyShape.MatchString(rest) {
		x.Len = 5
	} else if tailShape.MatchString(rest) {
		x.Kind = impl.TkTail
	}
	x.At = at
	return x
}

// checkCover checks that the tokens of a string cover it, and the token at
// every offset, whether or not a token of the string begins there.
func checkCover(t *testing.T, kinds map[byte][2]int, s string) {
	t.Helper()
	for at := range len(s) {
		checkNext(t, s, tokenByDocument(kinds, s, at))
	}
	list, code := impl.TokensOf(s)
	if code != impl.OK {
		t.Errorf("TokensOf(%q) = %d", s, code)
	}
	at := 0
	for i, x := range list {
		if at >= len(s) || x != tokenByDocument(kinds, s, at) || x.Len < 1 {
			t.Errorf("TokensOf(%q): token %d is %v, but the bytes before it end at %d", s, i, x, at)
			return
		}
		if _, code := impl.TokenText(x); code != impl.OK {
			t.Errorf("TokenText(%v) = %d", x, code)
		}
		at += x.Len
		if x.Kind == impl.TkTail && at != len(s) {
			t.Errorf("TokensOf(%q): %v is not at the end", s, x)
		}
	}
	if at != len(s) {
		t.Errorf("TokensOf(%q) covers %d bytes", s, at)
	}
}

// P4, for all short strings of bytes that matter to escape sequences.
func TestTokensCoverEveryShortString(t *testing.T) {
	kinds := kindsOfBytes()
	list := []string{""}
	for range 4 {
		var longer []string
		for _, s := range list {
			for _, b := range []byte("\x1b $(,-/0?@BCNn~a\n\x0e\x7f\x8e\xa8") {
				longer = append(longer, s+string([]byte{b}))
			}
		}
		list = longer
		for _, s := range list {
			checkCover(t, kinds, s)
		}
		if t.Failed() {
			return
		}
	}
}

func TestTokensCoverLongStrings(t *testing.T) {
	kinds := kindsOfBytes()
	source := rand.New(rand.NewSource(3))
	const likely = "\x1b\x1b\x1b$$(()*+-./ !,BCAFIJ0?@~NOno"
	for range 3000 {
		b := make([]byte, source.Intn(80))
		for i := range b {
			if source.Intn(5) == 0 {
				b[i] = byte(source.Intn(256))
			} else {
				b[i] = likely[source.Intn(len(likely))]
			}
		}
		checkCover(t, kinds, string(b))
		if t.Failed() {
			return
		}
	}
}

func TestOffsetsOutsideTheString(t *testing.T) {
	for _, s := range []string{"", "a", "\x1b", "\x1b(B", "a\x1b$(", strings.Repeat("\x1b$(B", impl.MaxText/4)} {
		for _, at := range append([]int{len(s), len(s) + 1}, farInts...) {
			if at < 0 || at >= len(s) {
				if x, code := impl.NextToken(s, at); x != (impl.Token{}) || code != impl.ErrSize {
					t.Errorf("NextToken(%.20q, %d) = %v, %d", s, at, x, code)
				}
			}
		}
	}
}

func TestNextTokenIsLimitedToMaxTextBytes(t *testing.T) {
	full := strings.Repeat("a", impl.MaxText-1) + "\x1b"
	checkNext(t, full, newToken(impl.TkTail, 0, 0, 0, impl.MaxText-1, 1))
	checkNext(t, full, newToken(impl.TkLeft, 97, 0, 0, 0, 1))
	named := strings.Repeat(" ", impl.MaxText-4) + "\x1b$)C"
	checkNext(t, named, newToken(impl.TkName, 1, 3, 67, impl.MaxText-4, 4))
	for _, s := range []string{full + "a", strings.Repeat("\x1b", 3*impl.MaxText)} {
		for _, at := range append([]int{0, 1, impl.MaxText, impl.MaxText + 1, len(s)}, farInts...) {
			if x, code := impl.NextToken(s, at); x != (impl.Token{}) || code != impl.ErrLong {
				t.Errorf("NextToken of %d bytes at %d = %v, %d", len(s), at, x, code)
			}
		}
	}
}

// The number of tokens is limited, not that of bytes.
func TestTheNumberOfTokensIsLimited(t *testing.T) {
	for _, v := range []struct {
		s           string
		count, code int
	}{
		{strings.Repeat("a", impl.MaxList), impl.MaxList, impl.OK},
		{strings.Repeat("a", impl.MaxList+1), 0, impl.ErrMany},
		{strings.Repeat("\x1b$(B", impl.MaxList), impl.MaxList, impl.OK},
		{strings.Repeat("\x1b$(B", impl.MaxList) + "a", 0, impl.ErrMany},
		{strings.Repeat("\x1b$(B", impl.MaxList-1) + "\x1b$(", impl.MaxList, impl.OK},
		{strings.Repeat("\x1b$(B", impl.MaxList) + "\x1b", 0, impl.ErrMany},
		{strings.Repeat("\x1b    ", impl.MaxList), impl.MaxList, impl.OK},
		{strings.Repeat("\x1b    ", impl.MaxList) + " ", 0, impl.ErrMany},
		{strings.Repeat("\x1b", impl.MaxList), impl.MaxList, impl.OK},
		{strings.Repeat("\x1b", impl.MaxList+1), 0, impl.ErrMany},
		{strings.Repeat("\x00", impl.MaxText), 0, impl.ErrMany},
		{strings.Repeat("\x1b$(B", impl.MaxText/4), 0, impl.ErrMany},
		{strings.Repeat("\x00", impl.MaxText+1), 0, impl.ErrLong},
		{strings.Repeat("\x1b    ", impl.MaxText), 0, impl.ErrLong},
	} {
		list, code := impl.TokensOf(v.s)
		if len(list) != v.count || code != v.code {
			t.Errorf("TokensOf of %d bytes = %d tokens, %d, want %d, %d", len(v.s), len(list), code, v.count, v.code)
		}
		if code == impl.OK && list[len(list)-1].At+list[len(list)-1].Len != len(v.s) {
			t.Errorf("TokensOf of %d bytes ends with %v", len(v.s), list[len(list)-1])
		}
	}
}

// The designations of every set to every register; an empty string stands for none.
var escapeTable = map[int][4]string{
	impl.StAscii:  {"\x1b(B", "\x1b)B", "\x1b*B", "\x1b+B"},
	impl.StRoman:  {"\x1b(J", "\x1b)J", "\x1b*J", "\x1b+J"},
	impl.StKana:   {"\x1b(I", "\x1b)I", "\x1b*I", "\x1b+I"},
	impl.StLatin:  {"", "\x1b-A", "\x1b.A", "\x1b/A"},
	impl.StGreek:  {"", "\x1b-F", "\x1b.F", "\x1b/F"},
	impl.StKanji:  {"\x1b$B", "\x1b$)B", "\x1b$*B", "\x1b$+B"},
	impl.StHangul: {"\x1b$(C", "\x1b$)C", "\x1b$*C", "\x1b$+C"},
	impl.StHanzi:  {"\x1b$A", "\x1b$)A", "\x1b$*A", "\x1b$+A"},
}

func checkEscape(t *testing.T, register, set int, want string, wantCode int) {
	t.Helper()
	if s, code := impl.EscapeOf(register, set); s != want || code != wantCode {
		t.Errorf("EscapeOf(%d, %d) = %q, %d, want %q, %d", register, set, s, code, want, wantCode)
	}
}

// P4: a designating escape sequence is one token, which names its set.
func TestDesignationsOfEverySetToEveryRegister(t *testing.T) {
	for set, row := range escapeTable {
		for register, want := range row {
			if want == "" {
				checkEscape(t, register, set, "", impl.ErrRange)
				continue
			}
			checkEscape(t, register, set, want, impl.OK)
			kind, final := setTable[set-1].kind, setTable[set-1].final
			checkTokens(t, want, newToken(impl.TkName, register, kind, final, 0, len(want)))
			checkTokens(t, "\x1b"+want+"$(B", newToken(impl.TkOther, 0, 0, 0, 0, 1), newToken(impl.TkName, register, kind, final, 1, len(want)),
				newToken(impl.TkLeft, 36, 0, 0, 1+len(want), 1), newToken(impl.TkLeft, 40, 0, 0, 2+len(want), 1), newToken(impl.TkLeft, 66, 0, 0, 3+len(want), 1))
			for cut := 1; cut < len(want); cut++ {
				checkTokens(t, want[:cut], newToken(impl.TkTail, 0, 0, 0, 0, cut))
			}
			if n, code := impl.FindSet(kind, final); n != set || code != impl.OK {
				t.Errorf("%q names the set %d, %d", want, n, code)
			}
		}
	}
}

// A set that does not exist comes before a register that does not.
func TestRegistersAndSetsOutOfRange(t *testing.T) {
	registers := append([]int{4, 5, 256, 259}, farInts...)
	for _, set := range noSets {
		for _, register := range append([]int{0, 1, 2, 3}, registers...) {
			checkEscape(t, register, set, "", impl.ErrNone)
		}
	}
	for set := 1; set <= impl.Sets; set++ {
		for _, register := range registers {
			checkEscape(t, register, set, "", impl.ErrRange)
		}
	}
}

// tokenShapes lists the valid tokens at offset 0, but for TkTail and TkOther
// only those of one byte.
func tokenShapes() map[impl.Token]string {
	shapes := map[impl.Token]string{
		newToken(2, 0, 0, 0, 0, 1): "space", newToken(8, 0, 0, 0, 0, 1): "tail", newToken(9, 0, 0, 0, 0, 1): "other",
		newToken(5, 0, 0, 0, 0, 1): "shift 0", newToken(5, 1, 0, 0, 0, 1): "shift 1", newToken(5, 2, 0, 0, 0, 2): "shift 2", newToken(5, 3, 0, 0, 0, 2): "shift 3",
		newToken(6, 2, 0, 0, 0, 1): "single 2", newToken(6, 2, 0, 0, 0, 2): "single 2", newToken(6, 3, 0, 0, 0, 1): "single 3", newToken(6, 3, 0, 0, 0, 2): "single 3",
	}
	words := map[int]string{1: "control", 3: "left", 4: "right"}
	for _, v := range kindsOfBytes() {
		if word, ok := words[v[0]]; ok {
			shapes[newToken(v[0], v[1], 0, 0, 0, 1)] = fmt.Sprintf("%s %d", word, v[1])
		}
	}
	for _, v := range designations {
		for final := 64; final <= 126; final++ {
			for _, length := range []int{3, 4} {
				shapes[newToken(7, v[0], v[1], final, 0, length)] = fmt.Sprintf("name %d %d %d", v[0], v[1], final)
			}
		}
	}
	return shapes
}

// checkTokenText checks the text of any token, valid or not.
func checkTokenText(t *testing.T, shapes map[impl.Token]string, x impl.Token) {
	t.Helper()
	shape, ok := x, x.At >= 0 && x.At <= 65536
	shape.At = 0
	if x.Kind == impl.TkTail || x.Kind == impl.TkOther {
		shape.Len = 1
		ok = ok && x.Len >= 1 && x.Len <= 65536
	}
	head, found := shapes[shape]
	want, wantCode := "", impl.ErrBad
	if ok && found {
		want, wantCode = fmt.Sprintf("%s at %d long %d", head, x.At, x.Len), impl.OK
	}
	if s, code := impl.TokenText(x); s != want || code != wantCode {
		t.Errorf("TokenText(%v) = %q, %d, want %q, %d", x, s, code, want, wantCode)
	}
}

func TestTextsOfTokens(t *testing.T) {
	for _, v := range []struct {
		x    impl.Token
		want string
	}{
		{newToken(impl.TkControl, 0, 0, 0, 0, 1), "control 0 at 0 long 1"}, {newToken(impl.TkControl, 159, 0, 0, 65535, 1), "control 159 at 65535 long 1"},
		{newToken(impl.TkSpace, 0, 0, 0, 7, 1), "space at 7 long 1"}, {newToken(impl.TkLeft, 33, 0, 0, 10, 1), "left 33 at 10 long 1"},
		{newToken(impl.TkLeft, 126, 0, 0, 65536, 1), "left 126 at 65536 long 1"}, {newToken(impl.TkRight, 32, 0, 0, 1, 1), "right 32 at 1 long 1"},
		{newToken(impl.TkShift, 0, 0, 0, 0, 1), "shift 0 at 0 long 1"}, {newToken(impl.TkShift, 2, 0, 0, 0, 2), "shift 2 at 0 long 2"},
		{newToken(impl.TkSingle, 3, 0, 0, 4, 2), "single 3 at 4 long 2"}, {newToken(impl.TkName, 0, 1, 66, 0, 3), "name 0 1 66 at 0 long 3"},
		{newToken(impl.TkName, 3, 2, 126, 5, 3), "name 3 2 126 at 5 long 3"},
		// a pair in register 0 may have any final byte here, with either length
		{newToken(impl.TkName, 0, 3, 126, 0, 3), "name 0 3 126 at 0 long 3"}, {newToken(impl.TkName, 0, 3, 64, 0, 4), "name 0 3 64 at 0 long 4"},
		{newToken(impl.TkName, 1, 1, 64, 0, 4), "name 1 1 64 at 0 long 4"},
		{newToken(impl.TkTail, 0, 0, 0, 0, 65536), "tail at 0 long 65536"}, {newToken(impl.TkOther, 0, 0, 0, 65536, 65536), "other at 65536 long 65536"},
	} {
		if s, code := impl.TokenText(v.x); s != v.want || code != impl.OK {
			t.Errorf("TokenText(%v) = %q, %d, want %q", v.x, s, code, v.want)
		}
	}
}

// Every valid token at both ends of the offsets, and beside them.
func TestTextsOfAllTokensOfTheTable(t *testing.T) {
	shapes := tokenShapes()
	// 60 controls, a space, 94 left, 96 right, 4 shifts, 4 single shifts,
	// 11 ways to designate with 63 final bytes and two lengths, tail and other
	if len(shapes) != 60+1+94+96+4+4+11*63*2+2 {
		t.Fatal("valid tokens", len(shapes))
	}
	for x := range shapes {
		for _, at := range []int{-1, 0, 1, 65535, 65536, 65537} {
			x.At = at
			checkTokenText(t, shapes, x)
		}
	}
}

// Tokens that TokenText rejects for one field, and any integer in every field.
func TestTokensThatAreInvalidInOneField(t *testing.T) {
	shapes := tokenShapes()
	numbers := append(append(slices.Clone(farInts), hostileInts...), -2, -3, -4)
	for n := range 300 {
		numbers = append(numbers, n)
	}
	for _, x := range []impl.Token{{}, newToken(1, 10, 0, 0, 2, 1), newToken(1, 127, 0, 0, 2, 1), newToken(2, 0, 0, 0, 0, 1), newToken(3, 97, 0, 0, 0, 1), newToken(4, 97, 0, 0, 0, 1),
		newToken(5, 1, 0, 0, 0, 1), newToken(5, 3, 0, 0, 0, 2), newToken(6, 2, 0, 0, 0, 1), newToken(6, 3, 0, 0, 0, 2), newToken(7, 0, 1, 66, 0, 3), newToken(7, 1, 2, 65, 0, 3),
		newToken(7, 0, 3, 67, 0, 4), newToken(7, 3, 3, 66, 0, 4), newToken(8, 0, 0, 0, 1, 3), newToken(9, 0, 0, 0, 0, 5)} {
		for _, n := range numbers {
			for _, field := range []func(*impl.Token) *int{
				func(x *impl.Token) *int { return &x.Kind }, func(x *impl.Token) *int { return &x.A }, func(x *impl.Token) *int { return &x.B },
				func(x *impl.Token) *int { return &x.C }, func(x *impl.Token) *int { return &x.At }, func(x *impl.Token) *int { return &x.Len },
			} {
				changed := x
				*field(&changed) = n
				checkTokenText(t, shapes, changed)
			}
		}
	}
}

// Several fields at once, around their limits.
func TestTokensThatAreInvalidInSeveralFields(t *testing.T) {
	shapes := tokenShapes()
	for kind := -1; kind <= 11; kind++ {
		for a := -1; a <= 5; a++ {
			for b := -1; b <= 5; b++ {
				for _, c := range []int{math.MinInt, -66, 0, 1, 63, 64, 66, 67, 126, 127, 256 + 66, math.MaxInt} {
					for _, length := range []int{math.MinInt, -1, 0, 1, 2, 3, 4, 5, 65536, 65537, math.MaxInt} {
						checkTokenText(t, shapes, newToken(kind, a, b, c, 0, length))
					}
				}
			}
		}
	}
}
