package tests

import (
	"math/rand"
	"slices"
	"strings"
	"testing"

	"loop.example/g00748/impl"
)

// checkDecode checks all results of the functions that stop at the first fault.
func checkDecode(t *testing.T, n int, text string, at, code int, chars ...int) {
	t.Helper()
	list, offset, c := impl.Decode(n, text)
	if offset != at || c != code || !slices.Equal(list, chars) {
		t.Errorf("Decode(%d, %.60q) = %v, %d, %d, want %v, %d, %d", n, text, list, offset, c, chars, at, code)
	}
	if valid, c := impl.ValidText(n, text); valid != (code == impl.OK) || c != impl.OK {
		t.Errorf("ValidText(%d, %.60q) = %v, %d", n, text, valid, c)
	}
	if offset, c := impl.GoodUpTo(n, text); offset != at || c != impl.OK {
		t.Errorf("GoodUpTo(%d, %.60q) = %d, %d, want %d", n, text, offset, c, at)
	}
}

func checkLoose(t *testing.T, n int, text string, chars ...int) {
	t.Helper()
	if list, code := impl.DecodeLoose(n, text); code != impl.OK || !slices.Equal(list, chars) {
		t.Errorf("DecodeLoose(%d, %.60q) = %v, %d, want %v", n, text, list, code, chars)
	}
}

// checkValid checks a string without a fault in both decoders.
func checkValid(t *testing.T, n int, text string, chars ...int) {
	t.Helper()
	checkDecode(t, n, text, len(text), impl.OK, chars...)
	checkLoose(t, n, text, chars...)
}

// checkNotRead checks a code that stands alone in the results of all functions.
func checkNotRead(t *testing.T, n int, text string, code int) {
	t.Helper()
	if list, at, c := impl.Decode(n, text); len(list) != 0 || at != 0 || c != code {
		t.Errorf("Decode(%d, %d bytes) = %d characters, %d, %d, want %d", n, len(text), len(list), at, c, code)
	}
	if valid, c := impl.ValidText(n, text); valid || c != code {
		t.Errorf("ValidText(%d, %d bytes) = %v, %d, want %d", n, len(text), valid, c, code)
	}
	if at, c := impl.GoodUpTo(n, text); at != 0 || c != code {
		t.Errorf("GoodUpTo(%d, %d bytes) = %d, %d, want %d", n, len(text), at, c, code)
	}
	if list, c := impl.DecodeLoose(n, text); len(list) != 0 || c != code {
		t.Errorf("DecodeLoose(%d, %d bytes) = %d characters, %d, want %d", n, len(text), len(list), c, code)
	}
}

// A validText is a string without a fault in a profile, with its characters.
type validText struct {
	n     int
	text  string
	chars []int
}

// Lines with designations, shifts and single shifts.
var validTexts = []validText{
	{impl.PrJp, "", nil},
	{impl.PrJp, "A z\r\n\x00\x7f", []int{65, 32, 122, 13, 10, 0, 127}},
	{impl.PrJp, "\x1b$B$\"0!\x1b(J\\~\x1b(B\\\nA\n", []int{12354, 19968, 165, 8254, 92, 10, 65, 10}},
	{impl.PrJp, "\x1b$B$\" \t\x1b(B\n\n\x1b$(B$\"\x1b(B", []int{12354, 32, 9, 10, 10, 12354}},
	{impl.PrJp, "\x1b(B\x1b(J\x1b$B\x1b(B", nil},
	{impl.PrJp2, "", nil},
	{impl.PrJp2, "\x1b.A\x1bNi\x1bN i\nA", []int{233, 160, 105, 10, 65}},
	{impl.PrJp2, "\x1b.F\x1b$A0!\x1bNA0!\x1b$(C0!\x1b(B\n\x1b.A\n", []int{19998, 913, 19998, 44032, 10, 10}},
	{impl.PrJp2, "\x1b.F\x1bNA\x1b.A\x1bNA\n\x1b.F\x1bNA", []int{913, 193, 10, 913}},
	{impl.PrJp2, "\x1b$B$\"\x1b$A$\"\x1b$(C$\"\x1b(J~\x1b(B~", []int{12354, 12354, 12354, 8254, 126}},
	{impl.PrKr, "\x1b$)C", nil},
	{impl.PrKr, "\x1b$)CA\nB", []int{65, 10, 66}},
	{impl.PrKr, "\x1b$)C\x0e0!\x0fA\n\x0e0! \x0f\n", []int{44032, 65, 10, 44032, 32, 10}},
	{impl.PrKr, "\x1b$)C\x1b$)C\x0e\x1b(B0!\x1b$)C0\"\x0f\x0f", []int{44032, 44033}},
	{impl.PrCn, "", nil},
	{impl.PrCn, "\x1b$)A\x0e0!\x1b$)C0!\x0f\x1b*I\x1bN!\x1b$*B\x1bN0!A\n", []int{19998, 44032, 65377, 19968, 65, 10}},
	{impl.PrCn, "\x0e \x0f\n\x1b$)C\x0e0!\x0f", []int{32, 10, 44032}},
	{impl.PrCn, "\x1b$)C\x1b*I\x0e0!\x1bN!0!\x0f\n\x0e\x1b$)A0!\x0f\n", []int{44032, 65377, 44032, 10, 19998, 10}},
	{impl.PrCt, "", nil},
	{impl.PrCt, "\xe9\n\xe9\x1b$B$\"\n$\"", []int{233, 10, 233, 12354, 10, 12354}},
	{impl.PrCt, "\x1b)I\xa1\x1b-F\xc1\x1b$)C\xb0\xa1\n\xb0\xa1\x1b(J\\\n\\", []int{65377, 913, 44032, 10, 44032, 165, 10, 165}},
	{impl.PrCt, "A\xa0 \xff\x1b$A0!\xe90!", []int{65, 160, 32, 255, 19998, 233, 19998}},
}

// P7: for a valid string both decoders agree.
func TestDecodingValidStrings(t *testing.T) {
	for _, v := range validTexts {
		checkValid(t, v.n, v.text, v.chars...)
	}
}

// checkPrefixes checks P7 for every prefix of a string: its characters are the
// first ones of the string. If it holds the token of the string's fault and the
// byte behind it, which may be what ends an escape sequence, the fault is its own.
func checkPrefixes(t *testing.T, n int, text string) {
	t.Helper()
	whole, at, code := impl.Decode(n, text)
	x, _ := impl.NextToken(text, at)
	for end := range len(text) {
		list, offset, c := impl.Decode(n, text[:end])
		if len(list) > len(whole) || !slices.Equal(list, whole[:len(list)]) || offset > at || offset > end {
			t.Errorf("Decode(%d, %q) = %v, %d, but of %q %v, %d", n, text[:end], list, offset, text, whole, at)
		}
		if at+x.Len < end && code != impl.ErrHeader && (offset != at || c != code || len(list) != len(whole)) {
			t.Errorf("Decode(%d, %q) = %v, %d, %d, but of %q %v, %d, %d", n, text[:end], list, offset, c, text, whole, at, code)
		}
	}
}

func TestPrefixesOfValidStrings(t *testing.T) {
	for _, v := range validTexts {
		checkPrefixes(t, v.n, v.text)
		for _, behind := range []string{"\x1b", "\x80A", "\x1bZA\n", "\x1b(QA", "\x1b+BA", "\x1b$B$\nA"} {
			checkPrefixes(t, v.n, v.text+behind)
		}
	}
}

// P7: valid strings of a profile with Reset, with the Header once. In a profile
// without Reset the second string need not mean the same behind the first.
func TestConcatenatedValidStrings(t *testing.T) {
	for _, row := range profileTable {
		if !row.reset {
			continue
		}
		for _, one := range validTexts {
			for _, two := range validTexts {
				if one.n != row.number || two.n != row.number {
					continue
				}
				rest := strings.TrimPrefix(two.text, row.header)
				checkValid(t, row.number, one.text+rest, slices.Concat(one.chars, two.chars)...)
				checkValid(t, row.number, one.text+rest+rest, slices.Concat(one.chars, two.chars, two.chars)...)
			}
		}
	}
	checkValid(t, impl.PrCt, "\x1b$B$\"", 12354)
	checkValid(t, impl.PrCt, "$\"", 36, 34)
	checkValid(t, impl.PrCt, "\x1b$B$\"$\"", 12354, 12354)
}

func TestDecodingTheEmptyString(t *testing.T) {
	for _, row := range profileTable {
		if row.header == "" {
			checkValid(t, row.number, "")
		} else {
			checkDecode(t, row.number, "", 0, impl.ErrHeader)
			checkLoose(t, row.number, "", impl.Missing)
		}
	}
}

func TestTheHeader(t *testing.T) {
	const n, m = impl.PrKr, impl.Missing
	// missing, behind something else, and of another set or register
	checkDecode(t, n, "A\n", 0, impl.ErrHeader)
	checkLoose(t, n, "A\n", m, 65, 10)
	checkDecode(t, n, " \x1b$)C\x0e0!\x0f", 0, impl.ErrHeader)
	checkLoose(t, n, " \x1b$)C\x0e0!\x0f", m, 32, 44032)
	checkDecode(t, n, "\x0e0!\x0fA", 0, impl.ErrHeader)
	checkLoose(t, n, "\x0e0!\x0fA", m, m, m, 65)
	checkDecode(t, n, "\x1b$)AA", 0, impl.ErrHeader)
	checkLoose(t, n, "\x1b$)AA", m, m, 65)
	checkDecode(t, n, "\x1b$(CA", 0, impl.ErrHeader)
	checkLoose(t, n, "\x1b$(CA", m, m, 65)
	checkDecode(t, n, "\x1b(B", 0, impl.ErrHeader)
	checkLoose(t, n, "\x1b(B", m)
	// ErrHeader comes before the code of the first token
	checkDecode(t, n, "\x80", 0, impl.ErrHeader)
	checkLoose(t, n, "\x80", m, m)
	// cut off: what is there is a token with a code of its own
	for _, cut := range []string{"\x1b", "\x1b$", "\x1b$)"} {
		checkDecode(t, n, cut, 0, impl.ErrHeader)
		checkLoose(t, n, cut, m, m)
		checkDecode(t, n, cut+"\n", 0, impl.ErrHeader)
		checkLoose(t, n, cut+"\n", m, m, 10)
	}
	// repeated, at once, in a line, and at the start of another one
	checkValid(t, n, "\x1b$)C\x1b$)C")
	checkValid(t, n, "\x1b$)CA\x1b$)C\nB", 65, 10, 66)
	checkValid(t, n, "\x1b$)CA\n\x1b$)C\x0e0!\x0f\n", 65, 10, 44032, 10)
	// the Header is processed, and nothing is expected of a profile without one
	checkValid(t, n, "\x1b$)C\x0e0!\x0f", 44032)
	checkValid(t, impl.PrCn, "\x0e\x0fA", 65)
}

func TestDecodingStringsAtTheLimit(t *testing.T) {
	for _, row := range profileTable {
		count := impl.MaxList - len(row.header)
		checkValid(t, row.number, row.header+strings.Repeat("a", count), slices.Repeat([]int{97}, count)...)
		checkValid(t, row.number, row.header+strings.Repeat("\n", count), slices.Repeat([]int{10}, count)...)
		checkDecode(t, row.number, row.header+strings.Repeat("a", count-1)+"\x80", impl.MaxList-1, impl.ErrForbidden, slices.Repeat([]int{97}, count-1)...)
		checkDecode(t, row.number, row.header+strings.Repeat("a", count-1)+"\x1b", impl.MaxList-1, impl.ErrShort, slices.Repeat([]int{97}, count-1)...)
		checkLoose(t, row.number, row.header+strings.Repeat("\x80", count), slices.Repeat([]int{impl.Missing}, count)...)
		checkNotRead(t, row.number, row.header+strings.Repeat("a", count+1), impl.ErrSize)
	}
	// a missing Header adds to the characters of a full string
	checkLoose(t, impl.PrKr, strings.Repeat("\x80", impl.MaxList), slices.Repeat([]int{impl.Missing}, impl.MaxList+1)...)
	checkLoose(t, impl.PrKr, "\x1b$)C"+strings.Repeat("\x0e\n", impl.MaxList/2-2), slices.Repeat([]int{impl.Missing, 10}, impl.MaxList/2-2)...)
}

// Where several codes apply: ErrLong, ErrNone, ErrSize, and then the codes of
// the string.
func TestStringsThatAreNotRead(t *testing.T) {
	for _, c := range []string{"a", "\x80", "\x1b", "\n", "\x00", "\xff"} {
		for n := -1; n <= 7; n++ {
			exists := n >= 1 && n <= impl.Profiles
			for _, size := range []int{impl.MaxList + 1, impl.MaxList + 4, impl.MaxText} {
				code := impl.ErrNone
				if exists {
					code = impl.ErrSize
				}
				checkNotRead(t, n, strings.Repeat(c, size), code)
			}
			for _, size := range []int{impl.MaxText + 1, 2 * impl.MaxText} {
				checkNotRead(t, n, strings.Repeat(c, size), impl.ErrLong)
			}
		}
		for _, n := range noProfiles {
			for _, size := range []int{0, 1, impl.MaxList, impl.MaxList + 1} {
				checkNotRead(t, n, strings.Repeat(c, size), impl.ErrNone)
			}
		}
	}
	for _, n := range noProfiles {
		for _, v := range validTexts {
			checkNotRead(t, n, v.text, impl.ErrNone)
		}
	}
}

// P7: the characters before the first fault, its offset and its code, and what
// DecodeLoose makes of the string.
func TestFirstFaults(t *testing.T) {
	const m = impl.Missing
	for _, v := range []struct {
		n        int
		text     string
		at, code int
		loose    []int
		chars    []int
	}{
		// ErrShort of a tail, of a pending state, and of the other half
		{impl.PrJp, "AB\x1b", 2, impl.ErrShort, []int{65, 66, m}, []int{65, 66}},
		{impl.PrJp, "AB\x1b$(", 2, impl.ErrShort, []int{65, 66, m}, []int{65, 66}},
		{impl.PrJp, "A\x1b$B$\x1b(BC", 5, impl.ErrShort, []int{65, m, m}, []int{65}},
		{impl.PrJp, "A\x1b$B$ $\"\x1b(BC", 5, impl.ErrShort, []int{65, m, 12354, 67}, []int{65}},
		{impl.PrJp, "A\x1b$B$\r$\"\x1b(BC", 5, impl.ErrShort, []int{65, m, 12354, 67}, []int{65}},
		{impl.PrJp2, "A\x1b.F\x1bN\x1bNAA", 6, impl.ErrShort, []int{65, m, 65, 65}, []int{65}},
		{impl.PrCn, "A\x1b$)A\x0e0\x0fA", 7, impl.ErrShort, []int{65, m, m}, []int{65}},
		{impl.PrCt, "A\x1b$B\x1b$)C$\xb0$\"", 9, impl.ErrShort, []int{65, m, 12354}, []int{65}},
		{impl.PrCt, "A\x1b$B\x1b$)C$\xb0\xa1$\"", 9, impl.ErrShort, []int{65, m, m, m}, []int{65}},
		// ErrEscape
		{impl.PrJp, "A\x1bZB", 1, impl.ErrEscape, []int{65, m, 66}, []int{65}},
		{impl.PrJp, "A\x1b((((B", 1, impl.ErrEscape, []int{65, m, 66}, []int{65}},
		{impl.PrJp, "A\x1b\x1b(BB", 1, impl.ErrEscape, []int{65, m, 66}, []int{65}},
		{impl.PrKr, "\x1b$)CA\x1b(QB", 5, impl.ErrEscape, []int{65, m, 66}, []int{65}},
		{impl.PrCt, "\xe9\x1b$+DB", 1, impl.ErrEscape, []int{233, m, 66}, []int{233}},
		// ErrForbidden
		{impl.PrJp, "A\x80B", 1, impl.ErrForbidden, []int{65, m, 66}, []int{65}},
		{impl.PrJp, "A\xe9B", 1, impl.ErrForbidden, []int{65, m, 66}, []int{65}},
		{impl.PrJp, "A\x0eB", 1, impl.ErrForbidden, []int{65, m, 66}, []int{65}},
		{impl.PrJp, "A\x1bNB", 1, impl.ErrForbidden, []int{65, m, 66}, []int{65}},
		{impl.PrJp, "A\x1b$AB", 1, impl.ErrForbidden, []int{65, m, 66}, []int{65}},
		{impl.PrJp2, "A\x8eB", 1, impl.ErrForbidden, []int{65, m, 66}, []int{65}},
		{impl.PrKr, "\x1b$)CA\x1bnB", 5, impl.ErrForbidden, []int{65, m, 66}, []int{65}},
		{impl.PrCn, "A\x1bOB", 1, impl.ErrForbidden, []int{65, m, 66}, []int{65}},
		{impl.PrCt, "\xe9\x0fB", 1, impl.ErrForbidden, []int{233, m, 66}, []int{233}},
		// ErrState
		{impl.PrJp2, "A\x1bNBC", 3, impl.ErrState, []int{65, m, 67}, []int{65}},
		{impl.PrCn, "A\x0eBC\x0fD", 2, impl.ErrState, []int{65, m, m, 68}, []int{65}},
		{impl.PrCn, "A\x1b*I\n\x1bN!!", 7, impl.ErrState, []int{65, 10, m, 33}, []int{65, 10}},
		// ErrUnmapped, for the first and for the second byte
		{impl.PrJp, "A\x1b$B~~$\"\x1b(BC", 5, impl.ErrUnmapped, []int{65, m, 12354, 67}, []int{65}},
		{impl.PrJp2, "A\x1b.F\x1bN!!", 6, impl.ErrUnmapped, []int{65, m, 33}, []int{65}},
		{impl.PrCt, "\xe9\x1b$)B\xa0\xa4\xff\xa4\xa2", 5, impl.ErrUnmapped, []int{233, m, m, 12354}, []int{233}},
		// ErrReset
		{impl.PrJp, "A\x1b(J\nB", 4, impl.ErrReset, []int{65, m, 10, 66}, []int{65}},
		{impl.PrKr, "\x1b$)CA\x0e\nB", 6, impl.ErrReset, []int{65, m, 10, 66}, []int{65}},
	} {
		checkDecode(t, v.n, v.text, v.at, v.code, v.chars...)
		checkLoose(t, v.n, v.text, v.loose...)
	}
}

// At the end ErrShort of a pending state comes before ErrReset, and only a
// pending state leaves something that is Missing.
func TestEndsOfStrings(t *testing.T) {
	const m = impl.Missing
	check := func(n int, text string, code int, loose []int, chars ...int) {
		t.Helper()
		checkDecode(t, n, text, len(text), code, chars...)
		checkLoose(t, n, text, loose...)
	}
	// pending by Lead, in the left and in the right half
	check(impl.PrJp, "A\x1b$B$", impl.ErrShort, []int{65, m}, 65)
	check(impl.PrKr, "\x1b$)CA\x0e0", impl.ErrShort, []int{65, m}, 65)
	check(impl.PrCt, "\xe9\x1b$B$", impl.ErrShort, []int{233, m}, 233)
	check(impl.PrCt, "\xe9\x1b$)C\xb0", impl.ErrShort, []int{233, m}, 233)
	// pending by Single, also in a state that is at rest but for that
	check(impl.PrJp2, "A\x1bN", impl.ErrShort, []int{65, m}, 65)
	check(impl.PrJp2, "A\x1b.F\x1bN", impl.ErrShort, []int{65, m}, 65)
	check(impl.PrCn, "A\x1b*I\x1bN", impl.ErrShort, []int{65, m}, 65)
	check(impl.PrCn, "A\x1b$*B\x1bN$", impl.ErrShort, []int{65, m}, 65)
	check(impl.PrJp2, "A\x1b$B\x1b.F\x1bN", impl.ErrShort, []int{65, m}, 65)
	// not at rest only
	check(impl.PrJp, "A\x1b$B$\"", impl.ErrReset, []int{65, 12354}, 65, 12354)
	check(impl.PrJp, "A\x1b(J", impl.ErrReset, []int{65}, 65)
	check(impl.PrJp2, "\x1b$A", impl.ErrReset, nil)
	check(impl.PrJp2, "\x1b$A\x1b.F\x1bNA", impl.ErrReset, []int{913}, 913)
	check(impl.PrKr, "\x1b$)C\x0e", impl.ErrReset, nil)
	check(impl.PrKr, "\x1b$)C\x0e0!", impl.ErrReset, []int{44032}, 44032)
	check(impl.PrCn, "\x0e", impl.ErrReset, nil)
	check(impl.PrCn, "A\n\x1b$)A\x0e0!", impl.ErrReset, []int{65, 10, 19998}, 65, 10, 19998)
	// registers other than G0 do not matter, nor does any without Reset
	check(impl.PrJp2, "\x1b.F", impl.OK, nil)
	check(impl.PrCn, "\x1b$)A\x1b*I", impl.OK, nil)
	check(impl.PrCt, "\x1b$B$\"\x1b$)C", impl.OK, []int{12354}, 12354)
	// a tail is the fault of its token, and its Missing is the only one
	checkDecode(t, impl.PrJp, "\x1b$B$\x1b", 4, impl.ErrShort)
	checkLoose(t, impl.PrJp, "\x1b$B$\x1b", m)
	checkDecode(t, impl.PrJp2, "\x1bN\x1b(", 2, impl.ErrShort)
	checkLoose(t, impl.PrJp2, "\x1bN\x1b(", m)
	// of several faults the last token's is followed by none
	checkLoose(t, impl.PrJp2, "\x1b.F\x1bN!", m)
	checkLoose(t, impl.PrJp, "\x1b$B\x80$", m, m)
}

// A line end in a state that is not at rest or pending: Missing, 10, and the
// state behind it, which the next characters show.
func TestLineEndsWithAFault(t *testing.T) {
	const m = impl.Missing
	check := func(n int, text string, at, code int, loose []int, chars ...int) {
		t.Helper()
		checkDecode(t, n, text, at, code, chars...)
		checkLoose(t, n, text, loose...)
	}
	// G0 is ascii again, in each profile
	check(impl.PrJp, "\x1b$B$\"\n$\"\n", 5, impl.ErrReset, []int{12354, m, 10, 36, 34, 10}, 12354)
	check(impl.PrJp, "\x1b(J\n~", 3, impl.ErrReset, []int{m, 10, 126})
	check(impl.PrJp, "\x1b$B$\n$\"\n", 4, impl.ErrShort, []int{m, 10, 36, 34, 10})
	check(impl.PrJp2, "\x1b$A$\n$\"", 4, impl.ErrShort, []int{m, 10, 36, 34})
	check(impl.PrCt, "\x1b$B$\n$\"", 4, impl.ErrShort, []int{m, 10, 36, 34})
	// without Reset only a pending state is a fault; otherwise G0 stays
	check(impl.PrCt, "\x1b$B$\"\n$\"", 8, impl.OK, []int{12354, 10, 12354}, 12354, 10, 12354)
	// Left is 0 again
	check(impl.PrKr, "\x1b$)C\x0e0!\n0!", 7, impl.ErrReset, []int{44032, m, 10, 48, 33}, 44032)
	check(impl.PrKr, "\x1b$)C\x0e0\n0!", 6, impl.ErrShort, []int{m, 10, 48, 33})
	check(impl.PrCn, "\x1b$)C\x0e0!\n0!", 7, impl.ErrReset, []int{44032, m, 10, 48, 33}, 44032)
	// Single and Lead are 0
	check(impl.PrJp2, "\x1b.F\x1bN\nA", 5, impl.ErrShort, []int{m, 10, 65})
	check(impl.PrCn, "\x1b$*B\x1bN$\n\"A", 7, impl.ErrShort, []int{m, 10, 34, 65})
	// with Clear, G1 and G2 are empty
	check(impl.PrJp2, "\x1b.F\x1bN\n\x1bNA", 5, impl.ErrShort, []int{m, 10, m})
	check(impl.PrJp2, "\x1b.F\x1b(J\n\x1bNA", 6, impl.ErrReset, []int{m, 10, m})
	check(impl.PrCn, "\x1b$)C\x0e\n\x0e0!\x0f", 5, impl.ErrReset, []int{m, 10, m, m})
	check(impl.PrCn, "\x1b*I\x1bN\n\x1bN!", 5, impl.ErrShort, []int{m, 10, m})
	// without Clear, G1 is unchanged: of kr, and of ct with another set than at the start
	check(impl.PrKr, "\x1b$)C\x0e0!\n\x0e0!\x0f", 7, impl.ErrReset, []int{44032, m, 10, 44032}, 44032)
	check(impl.PrKr, "\x1b$)C\x0e0\n\x0e0!\x0f", 6, impl.ErrShort, []int{m, 10, 44032})
	check(impl.PrKr, "\x0e\n\x0e0!\x0f", 0, impl.ErrHeader, []int{m, m, 10, m, m})
	check(impl.PrCt, "\x1b$B$\n\xe9", 4, impl.ErrShort, []int{m, 10, 233})
	check(impl.PrCt, "\x1b-F\x1b$B$\n\xc1", 7, impl.ErrShort, []int{m, 10, 913})
	check(impl.PrCt, "\x1b$)C\xb0\n\xb0\xa1", 5, impl.ErrShort, []int{m, 10, 44032})
	check(impl.PrCt, "\x1b$)C\x1b$B\xb0\n\xb0\xa1$", 8, impl.ErrShort, []int{m, 10, 44032, 36})
	// several lines, each with a fault of its own
	check(impl.PrJp, "\x1b$B\n\x1b$B\nA\n\x1b(J\n", 3, impl.ErrReset, []int{m, 10, m, 10, 65, 10, m, 10})
	check(impl.PrKr, "\x1b$)C\x0e\n\x0e\n\n", 5, impl.ErrReset, []int{m, 10, m, 10, 10})
	// other controls do not end a line
	check(impl.PrJp, "\x1b$B$\r$\"\x1b(B", 4, impl.ErrShort, []int{m, 12354})
	check(impl.PrJp, "\x1b$B$\x0b$\"\x1b(B", 4, impl.ErrShort, []int{m, 12354})
	// the line end behind a fault of the same line is a fault only if it is not at rest
	check(impl.PrJp, "\x1b$A\nA", 0, impl.ErrForbidden, []int{m, 10, 65})
	check(impl.PrJp, "\x1b$B$\x80\nA", 4, impl.ErrForbidden, []int{m, m, 10, 65})
	// an escape sequence that a line end breaks off
	check(impl.PrJp, "A\x1b$\nB", 1, impl.ErrEscape, []int{65, m, 10, 66}, 65)
}

// A token with a code is ignored, but for Single and Lead: all else that the
// state holds remains.
func TestTokensBehindAReplacement(t *testing.T) {
	const m = impl.Missing
	for _, bad := range []string{"\x80", "\x8e", "\x1bZ", "\x1b(Q", "\x1b+B", "\x1b*B", "\x1bo", "\x9f"} {
		checkLoose(t, impl.PrJp, "\x1b$B"+bad+"$\""+bad+"\x1b(B", m, 12354, m)
		checkLoose(t, impl.PrJp2, "\x1b.F"+bad+"\x1bNA", m, 913)
		checkLoose(t, impl.PrJp2, "\x1b.F\x1bN"+bad+"A", m, 65)
		checkLoose(t, impl.PrKr, "\x1b$)C\x0e"+bad+"0!"+bad+"\x0fA", m, 44032, m, 65)
		checkLoose(t, impl.PrKr, "\x1b$)C\x0e0"+bad+"0!\x0fA", m, 44032, 65)
		checkLoose(t, impl.PrCn, "\x1b$)C\x1b$*B\x0e\x1bN0"+bad+"0!\x1bN0!", m, 44032, 19968)
		checkLoose(t, impl.PrCt, "\x1b$)C\xb0"+bad+"\xb0\xa1", m, 44032)
		checkLoose(t, impl.PrCt, "\x1b$B\x1b$)C$"+bad+"\xb0\xa1$\"", m, 44032, 12354)
	}
}

// decodeByDocument is the paragraph of chapter 7 on Decode.
func (row profileRow) decodeByDocument(chars *characters, text string) ([]int, int, int) {
	if !strings.HasPrefix(text, row.header) {
		return nil, 0, impl.ErrHeader
	}
	var list []int
	s := row.start
	tokens, _ := impl.TokensOf(text)
	for _, x := range tokens {
		after := row.stepByDocument(chars, s, x)
		if after.code != impl.OK {
			return list, x.At, after.code
		}
		if after.made {
			list = append(list, after.r)
		}
		s = after.state
	}
	if isPending(s) {
		return list, len(text), impl.ErrShort
	}
	if !row.restByDocument(s) {
		return list, len(text), impl.ErrReset
	}
	return list, len(text), impl.OK
}

// looseByDocument is the paragraph of chapter 7 on DecodeLoose.
func (row profileRow) looseByDocument(chars *characters, text string) []int {
	var list []int
	if !strings.HasPrefix(text, row.header) {
		list = append(list, impl.Missing)
	}
	s := row.start
	tokens, _ := impl.TokensOf(text)
	for _, x := range tokens {
		after := row.stepByDocument(chars, s, x)
		s = after.state
		switch {
		case after.code == impl.OK && after.made:
			list = append(list, after.r)
		case after.code != impl.OK && x.Kind == impl.TkControl && x.A == 10:
			list = append(list, impl.Missing, 10)
			if row.clear {
				s = row.start
			} else {
				s = impl.State{G0: row.start.G0, G1: s.G1, G2: s.G2, G3: s.G3}
			}
		case after.code != impl.OK:
			list = append(list, impl.Missing)
			s.Single, s.Lead = 0, 0
		}
	}
	if isPending(s) {
		list = append(list, impl.Missing)
	}
	return list
}

func (row profileRow) checkByDocument(t *testing.T, chars *characters, text string) {
	t.Helper()
	list, at, code := row.decodeByDocument(chars, text)
	checkDecode(t, row.number, text, at, code, list...)
	checkLoose(t, row.number, text, row.looseByDocument(chars, text)...)
}

// P7, for any bytes: every string of up to two of them, and behind the start of
// a line every byte and one of those that mean something else.
func TestDecodingEveryShortString(t *testing.T) {
	chars := charactersOfSets()
	before := []string{"", "\x1b$)C", "\x1b$B", "\x1b$B$", "\x1b.F\x1bN", "\x1b$)C\x0e", "\x1b$)C\x0e0", "\x1b$*B\x1bN0", "\x1b$)C\xb0", "\x1b"}
	const some = "\x00\n\r\x0e\x0f\x1b !\"$(0ABN~\x7f\x80\x8e\xa0\xa1\xb0\xe9\xff"
	eachProfile(t, func(t *testing.T, row profileRow) {
		for a := range 256 {
			for b := range 256 {
				row.checkByDocument(t, &chars, string([]byte{byte(a), byte(b)}))
			}
			for _, start := range before {
				text := start + string([]byte{byte(a)})
				row.checkByDocument(t, &chars, text)
				for i := range len(some) {
					row.checkByDocument(t, &chars, text+some[i:i+1])
				}
			}
			if t.Failed() {
				return
			}
		}
	})
}

// randomText puts parts together, from the Header on in most cases.
func (row profileRow) randomText(source *rand.Rand, parts []string) string {
	var text strings.Builder
	if source.Intn(8) != 0 {
		text.WriteString(row.header)
	}
	for range source.Intn(30) {
		text.WriteString(parts[source.Intn(len(parts))])
	}
	return text.String()
}

// partsOf returns what the strings of a profile consist of, and some of what
// they do not; rare parts are there once, the others several times.
func (row profileRow) partsOf() []string {
	parts := []string{"A", " ", "\n", "\n", "0!", "$\"", "0"}
	for register, sets := range row.sets {
		for _, set := range sets {
			parts = append(parts, escapeTable[set][register])
		}
	}
	parts = append(parts, "\x1b(B", "\x1b(B\n")
	if row.shifts {
		parts = append(parts, "\x0e", "\x0f", "\x0f\n")
	}
	if row.single {
		parts = append(parts, "\x1bN", "\x1bN!", "\x1bN0!")
	}
	if row.right {
		parts = append(parts, "\xb0\xa1", "\xb0", "\xe9")
	}
	return append(slices.Repeat(parts, 4), "\x80", "\xe9", "\x0e", "\x1bN", "\x1bZ", "\x1b(Q", "\x1b$A", "\x1b", "~~", "\r", "\x8e", "\x1b(")
}

// P7, for strings in which tokens of the profile and others follow each other.
func TestDecodingRandomStrings(t *testing.T) {
	chars := charactersOfSets()
	eachProfile(t, func(t *testing.T, row profileRow) {
		source := rand.New(rand.NewSource(int64(row.number)))
		parts := row.partsOf()
		valid := 0
		for range 20000 {
			text := row.randomText(source, parts)
			row.checkByDocument(t, &chars, text)
			checkPrefixes(t, row.number, text)
			if list, _, code := impl.Decode(row.number, text); code == impl.OK {
				valid++
				checkLoose(t, row.number, text, list...)
			}
			if t.Failed() {
				return
			}
		}
		if valid < 100 {
			t.Errorf("only %d strings are valid in %s", valid, row.name)
		}
	})
}

func TestDecodingRandomBytes(t *testing.T) {
	chars := charactersOfSets()
	eachProfile(t, func(t *testing.T, row profileRow) {
		source := rand.New(rand.NewSource(int64(row.number)))
		for range 5000 {
			text := make([]byte, source.Intn(60))
			for i := range text {
				text[i] = byte(source.Intn(256))
			}
			row.checkByDocument(t, &chars, string(text))
			row.checkByDocument(t, &chars, row.header+string(text))
		}
	})
}

// P7: the valid ones among random strings, one behind the other.
func TestConcatenatedRandomStrings(t *testing.T) {
	eachProfile(t, func(t *testing.T, row profileRow) {
		if !row.reset {
			return
		}
		source := rand.New(rand.NewSource(int64(row.number)))
		parts := row.partsOf()
		text, all, count := row.header, []int(nil), 0
		for range 20000 {
			next := row.header + strings.TrimPrefix(row.randomText(source, parts), row.header)
			list, _, code := impl.Decode(row.number, next)
			if code != impl.OK {
				continue
			}
			if len(text)+len(next) > 400 {
				text, all = row.header, nil
			}
			text += strings.TrimPrefix(next, row.header)
			all = append(all, list...)
			checkValid(t, row.number, text, all...)
			count++
		}
		if count < 100 {
			t.Errorf("only %d strings are valid in %s", count, row.name)
		}
	})
}

// Convention 3, also beside a code of the string.
func TestDecodersReturnNewMemory(t *testing.T) {
	for _, text := range []string{"A\x1b$B$\"\x1b(B\n", "A\x1b$B$\"\x1b(B\n\x80"} {
		want := []int{65, 12354, 10}
		one, _, _ := impl.Decode(impl.PrJp, text)
		two, _, _ := impl.Decode(impl.PrJp, text)
		spoil(one)
		three, _, _ := impl.Decode(impl.PrJp, text)
		if !slices.Equal(two, want) || !slices.Equal(three, want) {
			t.Error("the results of Decode share memory", two, three)
		}
	}
	want := []int{65, impl.Missing, 66, impl.Missing, 10}
	one, _ := impl.DecodeLoose(impl.PrJp, "A\x80B\x1b(J\n")
	two, _ := impl.DecodeLoose(impl.PrJp, "A\x80B\x1b(J\n")
	spoil(one)
	three, _ := impl.DecodeLoose(impl.PrJp, "A\x80B\x1b(J\n")
	if !slices.Equal(two, want) || !slices.Equal(three, want) {
		t.Error("the results of DecodeLoose share memory", two, three)
	}
}

// spoil changes a result, with the unused capacity behind it.
func spoil(list []int) {
	list = list[:cap(list)]
	for i := range list {
		list[i] = -1
	}
}
