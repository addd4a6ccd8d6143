package tests

import (
	"math"
	"slices"
	"strings"
	"testing"

	"loop.example/g00748/impl"
)

// checkTranscode checks all results of Transcode, and those of Shorten and
// Wasted from a profile to itself.
func checkTranscode(t *testing.T, from, to int, text, want string, at, code int) {
	t.Helper()
	if got, place, c := impl.Transcode(from, to, text); got != want || place != at || c != code {
		t.Errorf("Transcode(%d, %d, %.60q) = %q, %d, %d, want %q, %d, %d", from, to, text, got, place, c, want, at, code)
	}
	if from != to {
		return
	}
	if got, place, c := impl.Shorten(from, text); got != want || place != at || c != code {
		t.Errorf("Shorten(%d, %.60q) = %q, %d, %d, want %q, %d, %d", from, text, got, place, c, want, at, code)
	}
	waste := 0
	if code == impl.OK {
		waste = len(text) - len(want)
	}
	if got, c := impl.Wasted(from, text); got != waste || c != code {
		t.Errorf("Wasted(%d, %.60q) = %d, %d, want %d, %d", from, text, got, c, waste, code)
	}
}

func checkTranscodeLoose(t *testing.T, from, to int, text string, mark int, want string, code int) {
	t.Helper()
	if got, c := impl.TranscodeLoose(from, to, text, mark); got != want || c != code {
		t.Errorf("TranscodeLoose(%d, %d, %.60q, %d) = %q, %d, want %q, %d", from, to, text, mark, got, c, want, code)
	}
}

func checkToUtf(t *testing.T, n int, text, want string, at, code int) {
	t.Helper()
	if got, place, c := impl.ToUtf(n, text); got != want || place != at || c != code {
		t.Errorf("ToUtf(%d, %.60q) = %.60q, %d, %d, want %.60q, %d, %d", n, text, got, place, c, want, at, code)
	}
}

func checkFromUtf(t *testing.T, n int, text, want string, at, code int) {
	t.Helper()
	if got, place, c := impl.FromUtf(n, text); got != want || place != at || c != code {
		t.Errorf("FromUtf(%d, %.60q) = %q, %d, %d, want %q, %d, %d", n, text, got, place, c, want, at, code)
	}
}

// checkFaulty checks a code of Decode, with its offset, in all functions that
// decode strictly.
func checkFaulty(t *testing.T, n int, text string, at, code int) {
	t.Helper()
	for to := 1; to <= impl.Profiles; to++ {
		checkTranscode(t, n, to, text, "", at, code)
	}
	checkToUtf(t, n, text, "", at, code)
}

// checkNotChanged checks a code that does not depend on what a string contains,
// in all functions, with 0 as the second result.
func checkNotChanged(t *testing.T, from, to int, text string, code int) {
	t.Helper()
	checkTranscode(t, from, to, text, "", 0, code)
	for _, mark := range []int{63, 27, -1} {
		checkTranscodeLoose(t, from, to, text, mark, "", code)
	}
	if from == to {
		checkToUtf(t, from, text, "", 0, code)
		checkFromUtf(t, from, text, "", 0, code)
	}
}

// P14: strings of each profile in each other one, and with the same characters
// in UTF-8.
func TestTranscodingStrings(t *testing.T) {
	for _, v := range []struct {
		texts [impl.Profiles]string
		utf   string
	}{
		// an empty text stands for a profile that cannot encode the characters
		{[...]string{"AB\n", "AB\n", "\x1b$)CAB\n", "AB\n", "AB\n"}, "AB\n"},
		{[...]string{"\x00 \x7f", "\x00 \x7f", "\x1b$)C\x00 \x7f", "\x00 \x7f", "\x00 \x7f"}, "\x00 \x7f"},
		{[...]string{"\x1b$B$\"\x1b(BA", "\x1b$A$\"\x1b(BA", "\x1b$)C\x0e$\"\x0fA", "\x0e\x1b$)A$\"\x0fA", "\x1b$)A\xa4\xa2A"}, "\xe3\x81\x82A"},
		{[...]string{"\x1b$B0!\x1b(B\n", "\x1b$B0!\x1b(B\n", "", "\x1b$*B\x1bN0!\n", "\x1b$B0!\n"}, "\xe4\xb8\x80\n"},
		{[...]string{"\x1b(J~\x1b(B", "\x1b(J~\x1b(B", "", "", "\x1b(J~"}, "\xe2\x80\xbe"},
		{[...]string{"", "\x1b$(C0!\x1b(B\n\x1b$(C0!\x1b(B", "\x1b$)C\x0e0!\x0f\n\x0e0!\x0f", "\x0e\x1b$)C0!\x0f\n\x0e\x1b$)C0!\x0f", "\x1b$(C0!\n0!"}, "\xea\xb0\x80\n\xea\xb0\x80"},
		{[...]string{"", "\x1b.A\x1bNi\x1b.F\x1bNA", "", "", "\xe9\x1b-F\xc1"}, "\xc3\xa9\xce\x91"},
		{[...]string{"", "", "", "\x1b*I\x1bN!A\x1bN_", "\x1b)I\xa1A\xdf"}, "\xef\xbd\xa1A\xef\xbe\x9f"},
		{[...]string{"", "", "", "", "\xff"}, "\xc3\xbf"},
	} {
		for i, from := range v.texts {
			if from == "" {
				continue
			}
			checkToUtf(t, i+1, from, v.utf, 0, impl.OK)
			checkFromUtf(t, i+1, v.utf, from, 0, impl.OK)
			for k, to := range v.texts {
				if to != "" {
					checkTranscode(t, i+1, k+1, from, to, 0, impl.OK)
					checkTranscodeLoose(t, i+1, k+1, from, 63, to, impl.OK)
				}
			}
		}
	}
}

// The empty string has no characters, but it is only valid without a Header,
// and a target profile with a Header writes it.
func TestTranscodingTheEmptyString(t *testing.T) {
	for _, from := range profileTable {
		for _, to := range profileTable {
			n, m := from.number, to.number
			checkFromUtf(t, m, "", to.header, 0, impl.OK)
			checkTranscode(t, n, m, from.header, to.header, 0, impl.OK)
			checkTranscodeLoose(t, n, m, from.header, 63, to.header, impl.OK)
			checkToUtf(t, n, from.header, "", 0, impl.OK)
			if from.header == "" {
				continue
			}
			for end := range len(from.header) {
				checkFaulty(t, n, from.header[:end], 0, impl.ErrHeader)
			}
			checkTranscodeLoose(t, n, m, "", 63, to.header+"?", impl.OK)
		}
	}
}

// With the Header alone, and behind other bytes.
func TestTranscodingTheHeader(t *testing.T) {
	checkTranscode(t, impl.PrKr, impl.PrJp, "\x1b$)C", "", 0, impl.OK)
	checkTranscode(t, impl.PrKr, impl.PrKr, "\x1b$)C", "\x1b$)C", 0, impl.OK)
	checkTranscode(t, impl.PrKr, impl.PrKr, "\x1b$)C\x1b$)CA\x1b$)C\n", "\x1b$)CA\n", 0, impl.OK)
	checkTranscode(t, impl.PrCn, impl.PrKr, "\x1b$)C", "\x1b$)C", 0, impl.OK)
	checkTranscode(t, impl.PrJp, impl.PrKr, "", "\x1b$)C", 0, impl.OK)
	checkTranscode(t, impl.PrJp, impl.PrKr, "A\nB", "\x1b$)CA\nB", 0, impl.OK)
	checkTranscode(t, impl.PrJp, impl.PrCn, "\x1b$)C", "", 0, impl.ErrForbidden)
	checkFaulty(t, impl.PrKr, "A\x1b$)C", 0, impl.ErrHeader)
	checkFaulty(t, impl.PrKr, "\x80", 0, impl.ErrHeader)
	checkTranscodeLoose(t, impl.PrKr, impl.PrJp, "A", 42, "*A", impl.OK)
	checkTranscodeLoose(t, impl.PrKr, impl.PrKr, "\x80", 42, "\x1b$)C**", impl.OK)
	checkTranscodeLoose(t, impl.PrJp, impl.PrKr, "\x80A", 42, "\x1b$)C*A", impl.OK)
	checkTranscodeLoose(t, impl.PrJp, impl.PrCt, "\x1b$)CA", 42, "*A", impl.OK)
}

// Escape sequences that change nothing, designations that no character uses and
// shifts back and forth are what Shorten takes away.
func TestShorteningStrings(t *testing.T) {
	for _, v := range []struct {
		n          int
		text, want string
	}{
		// what is the shortest already
		{impl.PrJp, "", ""},
		{impl.PrJp, "A z\r\n\x00\x7f", "A z\r\n\x00\x7f"},
		{impl.PrJp, "\x1b$B$\"\x1b(B\n\x1b$B0!\x1b(B", "\x1b$B$\"\x1b(B\n\x1b$B0!\x1b(B"},
		{impl.PrKr, "\x1b$)C\x0e0!\x0f\n", "\x1b$)C\x0e0!\x0f\n"},
		{impl.PrCt, "\xe9A\n", "\xe9A\n"},
		// as short, but not the first
		{impl.PrJp2, "\x1b$B$\"\x1b(B", "\x1b$A$\"\x1b(B"},
		{impl.PrJp, "\x1b(J~A\x1b(B", "\x1b(J~\x1b(BA"},
		{impl.PrCn, "\x1b$)A\x0e0a\x0f", "\x0e\x1b$)A0a\x0f"},
		{impl.PrJp, "\x1b$B0! \x1b(B", "\x1b$B0!\x1b(B "},
		// the set that a register holds
		{impl.PrJp, "\x1b(BA\x1b(B\n\x1b(B", "A\n"},
		{impl.PrJp, "\x1b$B0!\x1b$B0!\x1b(B\x1b(B", "\x1b$B0!0!\x1b(B"},
		{impl.PrCt, "\x1b-A\xe9\x1b-A", "\xe9"},
		{impl.PrCn, "\x1b*I\x1bN!\x1b*I\x1bN!", "\x1b*I\x1bN!\x1bN!"},
		// by a longer sequence, and there and back
		{impl.PrJp, "\x1b$(B0!\x1b(B", "\x1b$B0!\x1b(B"},
		{impl.PrJp, "\x1b$B0!\x1b(B\x1b$B0!\x1b(B", "\x1b$B0!0!\x1b(B"},
		{impl.PrJp, "\x1b(J\x1b(BA\x1b(J\x1b(B\n", "A\n"},
		{impl.PrCt, "\x1b(JA\x1b(B\x1b$B", "A"},
		// a set that no character uses
		{impl.PrJp2, "\x1b.FA\x1b.A\n\x1b.F", "A\n"},
		{impl.PrCn, "\x1b$)A\x1b*IA\n\x1b$*BB", "A\nB"},
		{impl.PrCt, "\x1b)IA\x1b$)C\x1b-A\xe9\x1b)I", "A\xe9"},
		// shifts
		{impl.PrKr, "\x1b$)C\x0e\x0fA\x0e\x0f\n", "\x1b$)CA\n"},
		{impl.PrKr, "\x1b$)C\x0f\x0fA\x0f", "\x1b$)CA"},
		{impl.PrKr, "\x1b$)C\x0e0!\x0f\x0e0!\x0e0!\x0f\x0f", "\x1b$)C\x0e0!0!0!\x0f"},
		{impl.PrCn, "\x0e\x0f\x0e\x0f", ""},
		{impl.PrCn, "\x0e \x0fA", " A"},
		// the other half, or another register
		{impl.PrCt, "\x1b$B0!\x1b$A0a\x1b$B0!", "\x1b$)A\x1b$B0!\xb0\xe10!"},
		{impl.PrCn, "\x0e\x1b$)A$\"\x0fA\x0e$\"\x0f", "\x0e\x1b$)A$\"\x0fA\x0e$\"\x0f"},
	} {
		checkTranscode(t, v.n, v.n, v.text, v.want, 0, impl.OK)
		checkTranscode(t, v.n, v.n, v.want, v.want, 0, impl.OK)
	}
}

// A string of MaxList bytes, and of one more.
func TestTranscodingLongStrings(t *testing.T) {
	const most = impl.MaxList
	for _, row := range profileTable {
		n := row.number
		pad := strings.Repeat("\x1b(B", (most-len(row.header)-1)/3)
		long := row.header + pad + strings.Repeat("A", most-len(row.header)-len(pad))
		short := row.header + strings.Repeat("A", most-len(row.header)-len(pad))
		checkTranscode(t, n, n, long, short, 0, impl.OK)
		checkTranscode(t, n, impl.PrJp, long, strings.TrimPrefix(short, row.header), 0, impl.OK)
		checkTranscodeLoose(t, n, impl.PrKr, long, 63, "\x1b$)C"+strings.TrimPrefix(short, row.header), impl.OK)
		checkToUtf(t, n, long, strings.TrimPrefix(short, row.header), 0, impl.OK)
		checkNotChanged(t, n, n, long+"A", impl.ErrSize)
		// a code at the last byte of it
		checkFaulty(t, n, long[:most-1]+"\x80", most-1, impl.ErrForbidden)
		checkFaulty(t, n, long[:most-1]+"\x1b", most-1, impl.ErrShort)
		// characters are only limited where they are encoded
		own := strings.Repeat("a", most-len(row.header))
		checkToUtf(t, n, row.header+own, own, 0, impl.OK)
		checkTranscode(t, n, n, row.header+own, "", 0, impl.ErrMany)
		checkTranscodeLoose(t, n, n, row.header+own, 63, "", impl.ErrMany)
		checkFromUtf(t, n, strings.Repeat("a", most), "", 0, impl.ErrMany)
		checkFromUtf(t, n, strings.Repeat("a", most-1)+"\xff", "", most-1, impl.ErrUtf)
		checkFromUtf(t, n, strings.Repeat("\xf0\x9f\x98\x80", most/4), "", 0, impl.ErrMany)
	}
	pairs := (most - 6) / 2
	checkToUtf(t, impl.PrJp, "\x1b$B"+strings.Repeat("0!", pairs)+"\x1b(B", strings.Repeat("\xe4\xb8\x80", pairs), 0, impl.OK)
	checkToUtf(t, impl.PrCt, "\x1b)I"+strings.Repeat("\xa1", most-3), strings.Repeat("\xef\xbd\xa1", most-3), 0, impl.OK)
	// more characters than a list may have elements are still too many
	for _, text := range []string{strings.Repeat("a", most), strings.Repeat("\x80", most), strings.Repeat("\x0e\n", most/2), strings.Repeat("\x1b\n", most/2)} {
		for to := 1; to <= impl.Profiles; to++ {
			checkTranscodeLoose(t, impl.PrKr, to, text, 63, "", impl.ErrMany)
			checkTranscodeLoose(t, impl.PrKr, to, text, -1, "", impl.ErrUnmapped)
		}
	}
	checkTranscodeLoose(t, impl.PrKr, impl.PrJp, strings.Repeat("\x1b(B", most/3), 63, "?", impl.OK)
}

// As many characters as MaxChars, and one more, in strings that are short enough.
func TestTranscodingMaxChars(t *testing.T) {
	for _, from := range profileTable {
		for _, to := range profileTable {
			for _, c := range []string{"a", "\n", " ", "\x7f"} {
				most, many := strings.Repeat(c, impl.MaxChars), strings.Repeat(c, impl.MaxChars+1)
				checkTranscode(t, from.number, to.number, from.header+most, to.header+most, 0, impl.OK)
				checkTranscodeLoose(t, from.number, to.number, from.header+most, 63, to.header+most, impl.OK)
				checkFromUtf(t, to.number, most, to.header+most, 0, impl.OK)
				checkTranscode(t, from.number, to.number, from.header+many, "", 0, impl.ErrMany)
				checkTranscodeLoose(t, from.number, to.number, from.header+many, 63, "", impl.ErrMany)
				checkToUtf(t, from.number, from.header+many, many, 0, impl.OK)
				checkFromUtf(t, to.number, many, "", 0, impl.ErrMany)
			}
		}
	}
	checkTranscode(t, impl.PrJp, impl.PrCt, "\x1b$B"+strings.Repeat("0!", 60)+"\x1b(B", "\x1b$B"+strings.Repeat("0!", 60), 0, impl.OK)
	checkTranscode(t, impl.PrJp, impl.PrCt, "\x1b$B"+strings.Repeat("0!", 61)+"\x1b(B", "", 0, impl.ErrMany)
	checkFromUtf(t, impl.PrJp, strings.Repeat("\xe4\xb8\x80", 60), "\x1b$B"+strings.Repeat("0!", 60)+"\x1b(B", 0, impl.OK)
	checkFromUtf(t, impl.PrJp, strings.Repeat("\xe4\xb8\x80", 61), "", 0, impl.ErrMany)
	// a missing Header, the end in a pending state, and a line end that must not
	// be there, are characters of their own
	for _, v := range []struct {
		n           int
		start, want string
	}{{impl.PrKr, "", "?"}, {impl.PrJp, "\x1b$B$\n", "?\n"}, {impl.PrJp2, "\x80", "?"}} {
		added := len(v.want)
		checkTranscodeLoose(t, v.n, impl.PrJp, v.start+strings.Repeat("a", impl.MaxChars-added), 63, v.want+strings.Repeat("a", impl.MaxChars-added), impl.OK)
		checkTranscodeLoose(t, v.n, impl.PrJp, v.start+strings.Repeat("a", impl.MaxChars-added+1), 63, "", impl.ErrMany)
	}
	checkTranscodeLoose(t, impl.PrCn, impl.PrJp, strings.Repeat("a", impl.MaxChars-1)+"\x1bN", 63, strings.Repeat("a", impl.MaxChars-1)+"?", impl.OK)
	checkTranscodeLoose(t, impl.PrCn, impl.PrJp, strings.Repeat("a", impl.MaxChars)+"\x1bN", 63, "", impl.ErrMany)
}

// A code of Decode, at its offset: at the first byte, in the middle, at the last
// byte and at the end of the string.
func TestTranscodingFaultyStrings(t *testing.T) {
	for _, v := range []struct {
		n        int
		text     string
		at, code int
	}{
		{impl.PrJp, "\x80AB", 0, impl.ErrForbidden},
		{impl.PrJp, "\x1bZAB", 0, impl.ErrEscape},
		{impl.PrJp, "\xe9", 0, impl.ErrForbidden},
		{impl.PrCt, "\x1b$BA", 4, impl.ErrShort},
		{impl.PrKr, "", 0, impl.ErrHeader},
		{impl.PrKr, "\x1b$)", 0, impl.ErrHeader},
		{impl.PrJp, "A\x1bZB", 1, impl.ErrEscape},
		{impl.PrJp, "\x1b$B$\"\nA", 5, impl.ErrReset},
		{impl.PrJp, "\x1b$B$\"!\x1b(B", 6, impl.ErrShort},
		{impl.PrJp, "\x1b$B$\"\x7f1!\x1b(B", 7, impl.ErrUnmapped},
		{impl.PrJp2, "\x1bNA", 2, impl.ErrState},
		{impl.PrCn, "A\x0e0!", 2, impl.ErrState},
		{impl.PrCt, "\xe9\xe9\x0e", 2, impl.ErrForbidden},
		{impl.PrJp, "AB\x80", 2, impl.ErrForbidden},
		{impl.PrKr, "\x1b$)CA\x80", 5, impl.ErrForbidden},
		{impl.PrJp, "AB\x1b", 2, impl.ErrShort},
		{impl.PrJp, "AB\x1b$(", 2, impl.ErrShort},
		{impl.PrJp, "\x1b$B$", 4, impl.ErrShort},
		{impl.PrJp2, "\x1b.A\x1bN", 5, impl.ErrShort},
		{impl.PrJp, "\x1b$B$\"", 5, impl.ErrReset},
		{impl.PrKr, "\x1b$)C\x0e", 5, impl.ErrReset},
		{impl.PrCn, "A\n\x0e", 3, impl.ErrReset},
	} {
		checkFaulty(t, v.n, v.text, v.at, v.code)
	}
	// before a code of Encode, whatever comes first
	checkFaulty(t, impl.PrCt, "\xff\xff\x0e", 2, impl.ErrForbidden)
	checkFaulty(t, impl.PrJp, strings.Repeat("a", 61)+"\x80", 61, impl.ErrForbidden)
	checkFaulty(t, impl.PrJp, strings.Repeat("a", 61)+"\x1b$B", 64, impl.ErrReset)
}

// A character that the target profile cannot encode, at its index among the
// characters.
func TestTranscodingCharactersOfOneProfile(t *testing.T) {
	for _, v := range []struct {
		from, to int
		text     string
		at       int
	}{
		// the only one, the first, in the middle and the last
		{impl.PrCt, impl.PrJp, "\xe9", 0},
		{impl.PrCt, impl.PrJp, "\xe9AB", 0},
		{impl.PrCt, impl.PrJp, "A\xe9B", 1},
		{impl.PrCt, impl.PrJp, "AB\xe9", 2},
		{impl.PrCt, impl.PrJp, "AB\xe9\xe9", 2},
		{impl.PrCt, impl.PrJp2, "\xfe\xff", 1},
		// behind characters of several bytes each, moves and a Header
		{impl.PrCt, impl.PrJp, "\x1b$B0!0\"\xe9", 2},
		{impl.PrCt, impl.PrKr, "\x1b$)C\xb0\xa1\xb0\xa2\x1b$B0!", 2},
		{impl.PrKr, impl.PrJp, "\x1b$)C\x0e0!\x0f", 0},
		{impl.PrKr, impl.PrJp, "\x1b$)CA\n\x0e0!\x0f", 2},
		{impl.PrJp2, impl.PrKr, "\x1b.A\x1bNi", 0},
		{impl.PrJp2, impl.PrKr, "\x1b$(C0!0\"\x1b.A\x1bNi\x1b(B", 2},
		{impl.PrCn, impl.PrJp2, "\x0e\x1b$)C0!\x0f\x1b*I\x1bN!", 1},
		{impl.PrJp, impl.PrKr, "\x1b$B$\"$$$&0!\x1b(B", 3},
	} {
		checkTranscode(t, v.from, v.to, v.text, "", v.at, impl.ErrUnmapped)
		text, _, code := impl.ToUtf(v.from, v.text)
		if code != impl.OK {
			t.Errorf("ToUtf(%d, %q): %d", v.from, v.text, code)
		}
		checkFromUtf(t, v.to, text, "", v.at, impl.ErrUnmapped)
	}
	last := "\x1b$B" + strings.Repeat("0!", 59) + "\xe9"
	checkTranscode(t, impl.PrCt, impl.PrJp, last, "", 59, impl.ErrUnmapped)
	checkTranscode(t, impl.PrCt, impl.PrJp, last+"\xe9", "", 0, impl.ErrMany)
	checkTranscode(t, impl.PrCt, impl.PrJp, strings.Repeat("\xe9", 60), "", 0, impl.ErrUnmapped)
	checkTranscode(t, impl.PrCt, impl.PrJp, strings.Repeat("\xe9", 61), "", 0, impl.ErrMany)
}

// Codes of RunesOf, at an offset in the UTF-8 string, and of Encode, at an index.
func TestEncodingUtf(t *testing.T) {
	for _, row := range profileTable {
		n := row.number
		checkFromUtf(t, n, "\xff", "", 0, impl.ErrUtf)
		checkFromUtf(t, n, "A\xe3\x81\x82\x80", "", 4, impl.ErrUtf)
		checkFromUtf(t, n, "\xe3\x81\x82\xe3\x81\x82\xe3\x81", "", 6, impl.ErrShort)
		checkFromUtf(t, n, "\xc3\xa9\xed\xa0\x80A", "", 2, impl.ErrUtf)
		checkFromUtf(t, n, "\xc0\x80", "", 0, impl.ErrUtf)
		checkFromUtf(t, n, "A\xf4\x90\x80\x80", "", 1, impl.ErrUtf)
		checkFromUtf(t, n, "A\xf0\x9f\x98", "", 1, impl.ErrShort)
		checkFromUtf(t, n, "\n\xc2", "", 1, impl.ErrShort)
		checkFromUtf(t, n, "\xef\xbf\xbd", "", 0, impl.ErrUnmapped)
		checkFromUtf(t, n, "A\x1b(BA", "", 1, impl.ErrUnmapped)
		checkFromUtf(t, n, "\xe3\x81\x82\xe3\x81\x82\xf0\x9f\x98\x80", "", 2, impl.ErrUnmapped)
		checkFromUtf(t, n, "A\x0eA\x0f", "", 1, impl.ErrUnmapped)
		// RunesOf comes before ErrMany, and that before what cannot be encoded
		checkFromUtf(t, n, strings.Repeat("a", 61)+"\xff", "", 61, impl.ErrUtf)
		checkFromUtf(t, n, "\x1b"+strings.Repeat("a", 60)+"\xc2", "", 61, impl.ErrShort)
		checkFromUtf(t, n, "\x1b\xff", "", 1, impl.ErrUtf)
		checkFromUtf(t, n, "\x1b"+strings.Repeat("a", 60), "", 0, impl.ErrMany)
		checkFromUtf(t, n, strings.Repeat("a", 60)+"\x1b", "", 0, impl.ErrMany)
		checkFromUtf(t, n, strings.Repeat("a", 59)+"\x1b", "", 59, impl.ErrUnmapped)
	}
	checkFromUtf(t, impl.PrJp, "\xe3\x81\x82\xe3\x81\x82\xc3\xa9", "", 2, impl.ErrUnmapped)
	checkFromUtf(t, impl.PrCt, "\xc3\xa9\xc3\xbf", "\xe9\xff", 0, impl.OK)
}

// What TranscodeLoose makes of faults and of characters that the target profile
// cannot encode.
func TestTranscodingWithAMark(t *testing.T) {
	for _, v := range []struct {
		from, to int
		text     string
		mark     int
		want     string
	}{
		{impl.PrCt, impl.PrJp, "A\xe9B", 63, "A?B"},
		{impl.PrCt, impl.PrJp, "\xe9\x1b$)C\xb0\xa1\x1b)I\xa1", 42, "***"},
		{impl.PrCt, impl.PrKr, "\xe9", 63, "\x1b$)C?"},
		{impl.PrCt, impl.PrKr, "\xe9", 44032, "\x1b$)C\x0e0!\x0f"},
		// a replacement character, which no profile can encode
		{impl.PrJp, impl.PrJp, "A\x80B", 63, "A?B"},
		{impl.PrJp, impl.PrCt, "A\x1bZB\x1b", 63, "A?B?"},
		{impl.PrJp, impl.PrJp2, "\x1b$B$\nA", 63, "?\nA"},
		{impl.PrKr, impl.PrKr, "A", 63, "\x1b$)C?A"},
		{impl.PrKr, impl.PrJp, "\x1b$)C\x0e0!\x80\n", 63, "???\n"},
		{impl.PrCn, impl.PrCt, "\x1bN", 233, "\xe9"},
		// the line end, and a character for the mark that the source cannot encode
		{impl.PrJp, impl.PrCt, "A\x80B", 233, "A\xe9B"},
		{impl.PrJp, impl.PrCt, "A", 233, "A"},
		{impl.PrJp, impl.PrKr, "\x80", 44032, "\x1b$)C\x0e0!\x0f"},
		{impl.PrJp, impl.PrCt, "\x80", 65377, "\x1b)I\xa1"},
		{impl.PrCt, impl.PrJp, "\xe9A", 10, "\nA"},
		{impl.PrCt, impl.PrJp, "\xe9A", 19968, "\x1b$B0!\x1b(BA"},
		{impl.PrCt, impl.PrJp, "\xe9A\xe9", 8254, "\x1b(J~A~\x1b(B"},
		{impl.PrCt, impl.PrJp, "\xe9", 0, "\x00"},
	} {
		checkTranscodeLoose(t, v.from, v.to, v.text, v.mark, v.want, impl.OK)
	}
}

// A mark that is no character, or that the target profile cannot encode, is
// refused, also where it is not needed and where there are too many characters.
func TestMarksOfTranscoding(t *testing.T) {
	texts := []string{"", "A", "\x80", "\x1b$)C", strings.Repeat("a", 61), strings.Repeat("a", impl.MaxList), strings.Repeat("\x80", impl.MaxList)}
	for _, from := range profileTable {
		for _, to := range profileTable {
			for _, text := range texts {
				for _, mark := range slices.Concat([]int{14, 15, 27, 128, 159, 256, impl.Missing, impl.MaxRune, impl.MaxRune + 1}, notCharacters) {
					checkTranscodeLoose(t, from.number, to.number, text, mark, "", impl.ErrUnmapped)
				}
			}
			if len(from.header) == 0 {
				checkTranscodeLoose(t, from.number, to.number, "A", 126, to.header+"A", impl.OK)
			}
		}
	}
	for _, text := range texts {
		// which the source can encode
		checkTranscodeLoose(t, impl.PrCt, impl.PrJp, text, 233, "", impl.ErrUnmapped)
		checkTranscodeLoose(t, impl.PrCt, impl.PrJp2, text, 255, "", impl.ErrUnmapped)
		checkTranscodeLoose(t, impl.PrCt, impl.PrKr, text, 19968, "", impl.ErrUnmapped)
		checkTranscodeLoose(t, impl.PrJp, impl.PrCn, text, 165, "", impl.ErrUnmapped)
		checkTranscodeLoose(t, impl.PrCn, impl.PrJp, text, 65377, "", impl.ErrUnmapped)
	}
}

// The order ErrLong, ErrNone for the source, ErrSize, ErrNone for the target, and
// then the codes of the string, of the mark and of the characters.
func TestOrderOfTheCodesOfTranscoding(t *testing.T) {
	numbers := slices.Concat([]int{1, 2, 3, 4, 5}, noProfiles)
	exists := func(n int) bool { return n >= 1 && n <= impl.Profiles }
	for _, c := range []string{"a", "\x80", "\xff"} {
		for _, size := range []int{0, 1, impl.MaxChars + 1, impl.MaxList, impl.MaxList + 1, impl.MaxText, impl.MaxText + 1, 2 * impl.MaxText} {
			text := strings.Repeat(c, size)
			for _, from := range numbers {
				for _, to := range numbers {
					switch {
					case size > impl.MaxText:
						checkNotChanged(t, from, to, text, impl.ErrLong)
					case !exists(from):
						checkNotChanged(t, from, to, text, impl.ErrNone)
					case size > impl.MaxList:
						checkNotChanged(t, from, to, text, impl.ErrSize)
					case !exists(to):
						checkNotChanged(t, from, to, text, impl.ErrNone)
					}
				}
			}
		}
	}
}

// Any integer as a profile, and as a mark, for strings that are valid.
func TestTranscodingWithAnyInteger(t *testing.T) {
	integers := slices.Concat(hostileInts, farInts, []int{3, 4, 5, 6, math.MinInt + 2, math.MaxInt - 2})
	for _, v := range validTexts {
		for _, n := range noProfiles {
			checkNotChanged(t, n, n, v.text, impl.ErrNone)
			checkNotChanged(t, n, v.n, v.text, impl.ErrNone)
			checkNotChanged(t, v.n, n, v.text, impl.ErrNone)
		}
		for _, mark := range integers {
			for to := 1; to <= impl.Profiles; to++ {
				text, code := impl.EncodeLoose(to, v.chars, mark)
				checkTranscodeLoose(t, v.n, to, v.text, mark, text, code)
			}
		}
	}
}
