package tests

import (
	"math"
	"math/rand"
	"slices"
	"strings"
	"testing"

	"loop.example/g00748/impl"
)

// checkEncode checks all results of the functions that encode, for characters
// that can be encoded, and that decoding inverts them.
func checkEncode(t *testing.T, n int, text string, chars ...int) {
	t.Helper()
	if got, at, code := impl.Encode(n, chars); got != text || at != 0 || code != impl.OK {
		t.Errorf("Encode(%d, %v) = %q, %d, %d, want %q", n, chars, got, at, code, text)
	}
	if cost, at, code := impl.CostOf(n, chars); cost != len(text) || at != 0 || code != impl.OK {
		t.Errorf("CostOf(%d, %v) = %d, %d, %d, want %d", n, chars, cost, at, code, len(text))
	}
	checkMarked(t, n, chars, 63, text, impl.OK)
	checkValid(t, n, text, chars...)
}

// checkNotEncoded checks a code of Encode and CostOf, and the index beside it.
func checkNotEncoded(t *testing.T, n int, list []int, at, code int) {
	t.Helper()
	if text, index, c := impl.Encode(n, list); text != "" || index != at || c != code {
		t.Errorf("Encode(%d, %.60v) = %q, %d, %d, want %d, %d", n, list, text, index, c, at, code)
	}
	if cost, index, c := impl.CostOf(n, list); cost != 0 || index != at || c != code {
		t.Errorf("CostOf(%d, %.60v) = %d, %d, %d, want %d, %d", n, list, cost, index, c, at, code)
	}
}

func checkMarked(t *testing.T, n int, list []int, mark int, text string, code int) {
	t.Helper()
	if got, c := impl.EncodeLoose(n, list, mark); got != text || c != code {
		t.Errorf("EncodeLoose(%d, %.60v, %d) = %q, %d, want %q, %d", n, list, mark, got, c, text, code)
	}
}

// P9: lists of characters of one and of several sets, in every profile.
func TestEncodingLists(t *testing.T) {
	for _, v := range []validText{
		{impl.PrJp, "", nil},
		{impl.PrJp, "A b\tc\x7f", []int{65, 32, 98, 9, 99, 127}},
		{impl.PrJp, "\x1b$B$\"0!#!\x1b(B", []int{12354, 19968, 65296}},
		{impl.PrJp, "A\x1b$B$\"\x1b(BB", []int{65, 12354, 66}},
		{impl.PrJp, "\x1b(J\\a~\x1b(B\\", []int{165, 97, 8254, 92}},
		{impl.PrJp, "\x1b$B$\"\x1b(J\\\x1b(B", []int{12354, 165}},
		{impl.PrJp2, "\x1b.A\x1bNi\x1bNi", []int{233, 233}},
		{impl.PrJp2, "\x1b.A\x1bNi\x1b.F\x1bNA", []int{233, 913}},
		{impl.PrJp2, "\x1b$(C0!1!\x1b(B", []int{44032, 44126}},
		{impl.PrJp2, "\x1b$B0!0?\x1b(B", []int{19968, 19998}},
		{impl.PrJp2, "\x1b$B0!\x1b$A0a\x1b(B", []int{19968, 20062}},
		{impl.PrKr, "\x1b$)C", nil},
		{impl.PrKr, "\x1b$)CA\x0e0!1!\x0fB", []int{65, 44032, 44126, 66}},
		{impl.PrCn, "", nil},
		{impl.PrCn, "\x1b*I\x1bN!A\x1bN_", []int{65377, 65, 65439}},
		{impl.PrCn, "\x1b$*B\x1bN0!", []int{19968}},
		{impl.PrCt, "", nil},
		{impl.PrCt, "\xe9A\xff\xa0 ", []int{233, 65, 255, 160, 32}},
		{impl.PrCt, "\x1b)I\xa1A\xdf", []int{65377, 65, 65439}},
		{impl.PrCt, "\x1b$A0!", []int{19998}},
	} {
		checkEncode(t, v.n, v.text, v.chars...)
	}
}

// The Header of kr stands before every list, and once.
func TestTheHeaderOfAnEncoding(t *testing.T) {
	for _, row := range profileTable {
		checkEncode(t, row.number, row.header)
		checkEncode(t, row.number, row.header+"\n", 10)
		checkEncode(t, row.number, row.header+"A", 65)
		checkEncode(t, row.number, row.header+"A\n\nB\n", 65, 10, 10, 66, 10)
	}
	checkEncode(t, impl.PrKr, "\x1b$)C\x0e0!\x0f\n\x0e0!\x0f\n", 44032, 10, 44032, 10)
}

// What must stand behind the last character so that the string is valid.
func TestEndsOfEncodings(t *testing.T) {
	// G0 is ascii again and Left is 0 again, with Reset
	checkEncode(t, impl.PrJp, "\x1b$B0!\x1b(B", 19968)
	checkEncode(t, impl.PrJp, "\x1b(J~\x1b(B", 8254)
	checkEncode(t, impl.PrJp2, "\x1b$A0a\x1b(B", 20062)
	checkEncode(t, impl.PrKr, "\x1b$)C\x0e0!\x0f", 44032)
	checkEncode(t, impl.PrCn, "\x0e\x1b$)C0!\x0f", 44032)
	// G1 and G2 stay
	checkEncode(t, impl.PrJp2, "\x1b.F\x1bNA", 913)
	checkEncode(t, impl.PrCn, "\x1b*I\x1bN!", 65377)
	// nothing without Reset
	checkEncode(t, impl.PrCt, "\x1b(J~", 8254)
	checkEncode(t, impl.PrCt, "\x1b$B0!", 19968)
	checkEncode(t, impl.PrCt, "\x1b-F\xc1", 913)
}

// Line ends in the middle of a list: with Reset a line ends at rest, and with
// Clear the next one begins without the sets of the one before.
func TestEncodingLines(t *testing.T) {
	checkEncode(t, impl.PrJp, "\x1b$B0!\x1b(B\n\x1b$B0!\x1b(B\n", 19968, 10, 19968, 10)
	checkEncode(t, impl.PrJp, "\x1b(J~\x1b(B\n\n~", 8254, 10, 10, 126)
	checkEncode(t, impl.PrJp2, "\x1b.F\x1bNA\n\x1b.F\x1bNA", 913, 10, 913)
	checkEncode(t, impl.PrJp2, "\x1b$A\x1b.F0a\x1bNA0a\x1b(B\n\x1b.A\x1bNi", 20062, 913, 20062, 10, 233)
	checkEncode(t, impl.PrKr, "\x1b$)CA\x0e0!\x0f\n\x0e0!\x0f", 65, 44032, 10, 44032)
	checkEncode(t, impl.PrCn, "\x0e\x1b$)C0!\x0f\n\x0e\x1b$)C0!\x0f\n", 44032, 10, 44032, 10)
	checkEncode(t, impl.PrCn, "\x1b*I\x1bN!\n\x1b*I\x1bN!", 65377, 10, 65377)
	checkEncode(t, impl.PrCt, "\x1b$A0a\n0a", 20062, 10, 20062)
	checkEncode(t, impl.PrCt, "\x1b-F\xc1\n\xc1\n\n\xc1", 913, 10, 913, 10, 10, 913)
	checkEncode(t, impl.PrCt, "\x1b(J~\n~\x1b(B~", 8254, 10, 8254, 126)
	// another control does not end a line
	checkEncode(t, impl.PrJp, "\x1b$B0!\r0!\x1b(B", 19968, 13, 19968)
	checkEncode(t, impl.PrJp2, "\x1b.F\x1bNA\v\x1bNA", 913, 11, 913)
}

// Several strings of equal length, of which the lexicographically first is asked.
func TestEquallyShortEncodings(t *testing.T) {
	for _, v := range []validText{
		// the set whose final byte is first
		{impl.PrJp2, "\x1b$A$\"\x1b(B", []int{12354}},
		{impl.PrJp2, "\x1b$A%!\x1b(B", []int{12449}},
		{impl.PrJp2, "\x1b$A%!0!\x1b(B", []int{12449, 19998}},
		{impl.PrJp2, "\x1b$B%!0!\x1b(B", []int{12449, 19968}},
		{impl.PrJp2, "\x1b$(C$\"0!\x1b(B", []int{12354, 44032}},
		{impl.PrJp2, "\x1b.A\x1bN ", []int{160}},
		{impl.PrJp2, "\x1b.F\x1bN \x1bNA", []int{160, 913}},
		{impl.PrCn, "\x0e\x1b$)A%!\x0f", []int{12449}},
		{impl.PrCt, "\x1b$A$\"", []int{12354}},
		// where a character belongs to the set before and to the one behind it
		{impl.PrJp2, "\x1b$A0a\x1b$(C$\"0!\x1b(B", []int{20062, 12354, 44032}},
		{impl.PrJp, "\x1b(J~\x1b(BAB", []int{8254, 65, 66}},
		{impl.PrJp, "\x1b(JA~\x1b(B", []int{65, 8254}},
		// a shift before or behind a designation, and one register or the other
		{impl.PrCn, "\x0e\x1b$)A0a\x0f", []int{20062}},
		{impl.PrCn, "\x0e\x1b$)A$\"\x0f", []int{12354}},
		{impl.PrCn, "\x0e\x1b$)A$\"$\"\x0f", []int{12354, 12354}},
		{impl.PrCt, "\x1b$(C0!", []int{44032}},
		{impl.PrCt, "\x1b$)A\xa4\xa2A", []int{12354, 65}},
		{impl.PrCt, "\x1b(J\\~", []int{165, 8254}},
		{impl.PrCt, "\xa5A", []int{165, 65}},
		// a space before or behind a move, which begins with 14, 15 or 27
		{impl.PrJp, "\x1b$B 0!\x1b(B ", []int{32, 19968, 32}},
		{impl.PrKr, "\x1b$)C\x0e 0!\x0f ", []int{32, 44032, 32}},
		{impl.PrCn, "\x1b*I \x1bN!", []int{32, 65377}},
		{impl.PrCt, "\x1b-F \xc1", []int{32, 913}},
		{impl.PrCt, "\x1b-F\xa0A\xc1", []int{160, 65, 913}},
		{impl.PrJp2, "\x1b.AA\x1bNi", []int{65, 233}},
		// and so a control
		{impl.PrJp, "\t\x1b$B0!\t\x1b(B", []int{9, 19968, 9}},
		{impl.PrJp, "\x1b$B\x1c0!\x1b(B\x1c", []int{28, 19968, 28}},
		{impl.PrKr, "\x1b$)C\r\x0e0!\r\x0f", []int{13, 44032, 13}},
		{impl.PrKr, "\x1b$)C\x0e\x100!\x0f\x10", []int{16, 44032, 16}},
		{impl.PrKr, "\x1b$)C\x0e\x7f0!\x0f\x7f", []int{127, 44032, 127}},
		{impl.PrCt, "\n\x1b-F\xc1", []int{10, 913}},
		{impl.PrJp2, "\t\x1b.A\x1bNi", []int{9, 233}},
	} {
		checkEncode(t, v.n, v.text, v.chars...)
	}
}

// P9: the characters 32 to 126 and 10 are their own bytes, behind the Header.
func TestCharactersThatAreTheirOwnBytes(t *testing.T) {
	own := []int{10}
	for r := 32; r <= 126; r++ {
		own = append(own, r)
	}
	eachProfile(t, func(t *testing.T, row profileRow) {
		for _, r := range own {
			checkEncode(t, row.number, row.header+string(rune(r)), r)
		}
		for from := 0; from < len(own); from += 7 {
			list := own[from:min(from+impl.MaxChars, len(own))]
			text := ""
			for _, r := range list {
				text += string(rune(r))
			}
			checkEncode(t, row.number, row.header+text, list...)
		}
		source := rand.New(rand.NewSource(int64(row.number)))
		for range 30 {
			var list []int
			text := ""
			for range source.Intn(impl.MaxChars + 1) {
				list = append(list, own[source.Intn(len(own))])
				text += string(rune(list[len(list)-1]))
			}
			checkEncode(t, row.number, row.header+text, list...)
		}
	})
}

func TestListsOfMaxChars(t *testing.T) {
	if impl.MaxChars != 60 {
		t.Error("MaxChars", impl.MaxChars)
	}
	full := func(r int) []int { return slices.Repeat([]int{r}, impl.MaxChars) }
	for _, row := range profileTable {
		n := row.number
		checkEncode(t, n, row.header+strings.Repeat("a", 60), full(97)...)
		checkEncode(t, n, row.header+strings.Repeat("\n", 60), full(10)...)
		for _, list := range [][]int{append(full(97), 97), append(full(10), 10), make([]int, 61), append(full(97), 1114112), append(full(27), 27), append(full(-1), -1)} {
			checkNotEncoded(t, n, list, 0, impl.ErrMany)
			checkMarked(t, n, list, 63, "", impl.ErrMany)
		}
	}
	checkEncode(t, impl.PrJp, "\x1b$B"+strings.Repeat("0!", 60)+"\x1b(B", full(19968)...)
	checkEncode(t, impl.PrJp, strings.Repeat("A\x1b$B0!\x1b(B", 30), slices.Repeat([]int{65, 19968}, 30)...)
	checkEncode(t, impl.PrJp2, "\x1b.A"+strings.Repeat("\x1bNi", 60), full(233)...)
	checkEncode(t, impl.PrJp2, strings.Repeat("\x1b.A\x1bNi\x1b.F\x1bNA", 30), slices.Repeat([]int{233, 913}, 30)...)
	checkEncode(t, impl.PrJp2, strings.Repeat("\x1b.A\x1bNi\n", 30), slices.Repeat([]int{233, 10}, 30)...)
	checkEncode(t, impl.PrKr, "\x1b$)C"+strings.Repeat("\x0e0!\x0f\n", 30), slices.Repeat([]int{44032, 10}, 30)...)
	checkEncode(t, impl.PrCn, "\x0e\x1b$)C"+strings.Repeat("0!", 60)+"\x0f", full(44032)...)
	checkEncode(t, impl.PrCt, strings.Repeat("\xe9", 60), full(233)...)
	// kana in the right half, and kanji in the left half
	checkEncode(t, impl.PrCt, "\x1b$A\x1b)I"+strings.Repeat("0a\xa1", 30), slices.Repeat([]int{20062, 65377}, 30)...)
}

// P9: a character that cannot be encoded is reported at its index, the first one
// of several.
func TestCharactersThatCannotBeEncoded(t *testing.T) {
	for _, row := range profileTable {
		for _, bad := range []int{14, 15, 27, 128, 159, 256, impl.Missing, 128512, impl.MaxRune} {
			checkNotEncoded(t, row.number, []int{bad}, 0, impl.ErrUnmapped)
			checkNotEncoded(t, row.number, []int{65, 10, bad}, 2, impl.ErrUnmapped)
			checkNotEncoded(t, row.number, []int{65, bad, 27, bad}, 1, impl.ErrUnmapped)
			checkNotEncoded(t, row.number, append(slices.Repeat([]int{97}, 59), bad), 59, impl.ErrUnmapped)
		}
	}
	checkNotEncoded(t, impl.PrJp, []int{12354, 65, 233}, 2, impl.ErrUnmapped)
	checkNotEncoded(t, impl.PrJp, []int{12354, 44032, 65}, 1, impl.ErrUnmapped)
	checkNotEncoded(t, impl.PrJp2, []int{254, 255}, 1, impl.ErrUnmapped)
	checkNotEncoded(t, impl.PrKr, []int{44032, 19968}, 1, impl.ErrUnmapped)
	checkNotEncoded(t, impl.PrCn, []int{65377, 233}, 1, impl.ErrUnmapped)
	checkNotEncoded(t, impl.PrCt, []int{255, 256}, 1, impl.ErrUnmapped)
}

// The order ErrLong, ErrNone, ErrMany, ErrRange, ErrUnmapped, with the index 0
// beside all but the last.
func TestOrderOfTheCodesOfEncoding(t *testing.T) {
	// the last element of each list is neither a character nor can it be encoded
	lists := func(size int) [][]int {
		return [][]int{make([]int, size), slices.Repeat([]int{97}, size), slices.Repeat([]int{27}, size), slices.Repeat([]int{55296}, size), slices.Repeat([]int{math.MinInt}, size)}
	}
	check := func(n int, list []int, code int) {
		t.Helper()
		checkNotEncoded(t, n, list, 0, code)
		for _, mark := range []int{63, 27, -1, math.MaxInt} {
			checkMarked(t, n, list, mark, "", code)
		}
	}
	for n := -1; n <= 7; n++ {
		for _, size := range []int{impl.MaxList + 1, impl.MaxText + 1} {
			for _, list := range lists(size) {
				check(n, list, impl.ErrLong)
			}
		}
	}
	for _, n := range noProfiles {
		for _, size := range []int{0, 1, 60, 61, impl.MaxList} {
			for _, list := range lists(size) {
				check(n, list, impl.ErrNone)
			}
		}
	}
	for _, row := range profileTable {
		for _, size := range []int{61, 62, impl.MaxList} {
			for _, list := range lists(size) {
				check(row.number, list, impl.ErrMany)
			}
		}
		for _, bad := range notCharacters {
			check(row.number, []int{bad}, impl.ErrRange)
			check(row.number, []int{27, 65, bad}, impl.ErrRange)
			check(row.number, []int{bad, 27}, impl.ErrRange)
			check(row.number, append(slices.Repeat([]int{128}, 59), bad), impl.ErrRange)
		}
	}
}

// EncodeLoose puts the mark in place of what the profile rejects, and that is
// encoded like any other character.
func TestEncodingWithAMark(t *testing.T) {
	for _, v := range []struct {
		n, mark int
		list    []int
		text    string
	}{
		{impl.PrJp, 63, []int{65, 233, 19968, 44032}, "A?\x1b$B0!\x1b(B?"},
		{impl.PrJp, 63, []int{14, 15, 27, 128}, "????"},
		{impl.PrJp, 19968, []int{65, 233, 233, 66}, "A\x1b$B0!0!\x1b(BB"},
		{impl.PrJp, 10, []int{19968, 233, 19968}, "\x1b$B0!\x1b(B\n\x1b$B0!\x1b(B"},
		{impl.PrJp, 32, []int{19968, 233, 19968}, "\x1b$B0! 0!\x1b(B"},
		{impl.PrJp2, 233, []int{65377, 65, 255}, "\x1b.A\x1bNiA\x1bNi"},
		{impl.PrKr, 44032, []int{233, 65}, "\x1b$)C\x0e0!\x0fA"},
		{impl.PrKr, 63, nil, "\x1b$)C"},
		{impl.PrCn, 65377, []int{233}, "\x1b*I\x1bN!"},
		{impl.PrCt, 255, []int{256, 65, impl.MaxRune, 27}, "\xffA\xff\xff"},
		{impl.PrCt, 127, []int{128, 159}, "\x7f\x7f"},
	} {
		checkMarked(t, v.n, v.list, v.mark, v.text, impl.OK)
	}
	for _, row := range profileTable {
		checkMarked(t, row.number, slices.Repeat([]int{impl.Missing}, 60), 63, row.header+strings.Repeat("?", 60), impl.OK)
	}
}

// A mark that cannot be encoded is refused, also where it is not needed.
func TestMarksThatCannotBeEncoded(t *testing.T) {
	lists := [][]int{nil, {65}, {27}, {12354, 10, 65}, slices.Repeat([]int{65}, 60)}
	for _, row := range profileTable {
		for _, list := range lists {
			for _, mark := range append([]int{14, 15, 27, 128, 159, 256, impl.Missing, impl.MaxRune}, notCharacters...) {
				checkMarked(t, row.number, list, mark, "", impl.ErrUnmapped)
			}
		}
	}
	for _, list := range lists {
		checkMarked(t, impl.PrJp, list, 233, "", impl.ErrUnmapped)
		checkMarked(t, impl.PrJp2, list, 255, "", impl.ErrUnmapped)
		checkMarked(t, impl.PrKr, list, 19968, "", impl.ErrUnmapped)
		checkMarked(t, impl.PrCn, list, 165, "", impl.ErrUnmapped)
	}
}

// characters lists what a profile can encode, by document: the controls and the
// space, and then the characters of one set after the other.
func (row profileRow) characters(all *codes) [][]int {
	lists := [][]int{nil}
	for r := range 128 {
		if r < 33 && row.canByDocument(all, r) || r == 127 {
			lists[0] = append(lists[0], r)
		}
	}
	for register, sets := range row.sets {
		for _, set := range sets {
			var list []int
			for r, code := range all[set] {
				if register != 2 || code != 127 {
					list = append(list, r)
				}
			}
			slices.Sort(list)
			lists = append(lists, list)
		}
	}
	return lists
}

// randomList draws characters of a few sets, in runs, over several lines.
func randomList(source *rand.Rand, lists [][]int, size int) []int {
	var list []int
	few := [][]int{{10, 32, 65}}
	for range 1 + source.Intn(3) {
		few = append(few, lists[source.Intn(len(lists))])
	}
	for len(list) < size {
		from := few[source.Intn(len(few))]
		for range 1 + source.Intn(3) {
			list = append(list, from[source.Intn(len(from))])
		}
	}
	return list[:size]
}

// randomLoose adds characters that no profile or not every profile can encode.
func randomLoose(source *rand.Rand, list []int) []int {
	list = slices.Clone(list)
	for range source.Intn(4) {
		if len(list) > 0 {
			list[source.Intn(len(list))] = []int{14, 15, 27, 128, 233, 255, 165, 19968, 44032, 65377, impl.Missing}[source.Intn(11)]
		}
	}
	return list
}

// P9: random lists through Encode and back, CostOf beside it, and EncodeLoose
// as Encode of the list with the mark in it.
func TestEncodingIsInvertedByDecoding(t *testing.T) {
	all := codesOfSets()
	eachProfile(t, func(t *testing.T, row profileRow) {
		source := rand.New(rand.NewSource(int64(row.number)))
		lists := row.characters(&all)
		for i := range 200 {
			list := randomList(source, lists, i%(impl.MaxChars+1))
			text, _, _ := impl.Encode(row.number, list)
			checkEncode(t, row.number, text, list...)
			loose := randomLoose(source, list)
			marked := slices.Clone(loose)
			first := -1
			for k, r := range loose {
				if !row.canByDocument(&all, r) {
					marked[k] = 63
					if first < 0 {
						first = k
					}
				}
			}
			if first >= 0 {
				checkNotEncoded(t, row.number, loose, first, impl.ErrUnmapped)
			}
			text, _, code := impl.Encode(row.number, marked)
			if code != impl.OK {
				t.Errorf("Encode(%d, %v) = %d", row.number, marked, code)
			}
			checkMarked(t, row.number, loose, 63, text, impl.OK)
			if t.Failed() {
				return
			}
		}
	})
}

// P9, for every character alone, and between two others.
func TestEncodingEveryCharacter(t *testing.T) {
	all, list := codesOfSets(), charactersToTry()
	eachProfile(t, func(t *testing.T, row profileRow) {
		for _, r := range list {
			if !row.canByDocument(&all, r) {
				checkNotEncoded(t, row.number, []int{65, r}, 1, impl.ErrUnmapped)
				continue
			}
			text, _, _ := impl.Encode(row.number, []int{r})
			checkEncode(t, row.number, text, r)
			text, _, _ = impl.Encode(row.number, []int{65, r, 66})
			checkEncode(t, row.number, text, 65, r, 66)
		}
	})
}

// P7: concatenating the encodings of a profile with Reset, the Header once.
func TestConcatenatedEncodings(t *testing.T) {
	all := codesOfSets()
	eachProfile(t, func(t *testing.T, row profileRow) {
		if !row.reset {
			return
		}
		source := rand.New(rand.NewSource(int64(row.number)))
		lists := row.characters(&all)
		for range 100 {
			text, chars := row.header, []int(nil)
			for range 4 {
				list := randomList(source, lists, source.Intn(20))
				next, _, _ := impl.Encode(row.number, list)
				text += strings.TrimPrefix(next, row.header)
				chars = append(chars, list...)
				checkValid(t, row.number, text, chars...)
			}
		}
	})
}

// P14: every valid string of jp is valid in jp2, with the same characters, and
// so what jp can encode costs no more in jp2.
func TestStringsOfJpAreStringsOfJp2(t *testing.T) {
	for _, v := range validTexts {
		if v.n == impl.PrJp {
			checkValid(t, impl.PrJp2, v.text, v.chars...)
		}
	}
	all := codesOfSets()
	row := profileTable[impl.PrJp-1]
	source := rand.New(rand.NewSource(14))
	lists, parts, valid := row.characters(&all), row.partsOf(), 0
	for range 300 {
		list := randomList(source, lists, source.Intn(30))
		text, _, _ := impl.Encode(impl.PrJp, list)
		checkValid(t, impl.PrJp2, text, list...)
		if cost, _, code := impl.CostOf(impl.PrJp2, list); cost > len(text) || code != impl.OK {
			t.Errorf("CostOf(2, %v) = %d, %d, but jp has %q", list, cost, code, text)
		}
	}
	for range 20000 {
		text := row.randomText(source, parts)
		if list, _, code := impl.Decode(impl.PrJp, text); code == impl.OK {
			valid++
			checkValid(t, impl.PrJp2, text, list...)
		}
	}
	if valid < 100 {
		t.Errorf("only %d strings are valid in jp", valid)
	}
}

// P1: neither the elements of a list nor its unused capacity change.
func TestEncodingKeepsItsArgument(t *testing.T) {
	for _, list := range [][]int{nil, {65, 12354, 10}, {65, 233, 27, 14}, {65, 55296}, slices.Repeat([]int{27}, 60), slices.Repeat([]int{27}, 61)} {
		for n := range 7 {
			whole := append(slices.Clone(list), 7, 8, 9)
			before := slices.Clone(whole)
			impl.Encode(n, whole[:len(list)])
			impl.CostOf(n, whole[:len(list)])
			impl.EncodeLoose(n, whole[:len(list)], 63)
			if !slices.Equal(whole, before) {
				t.Errorf("encoding %v in %d changed it", list, n)
			}
		}
	}
	// and a list that the caller changes afterwards has no effect on the result
	list := []int{65, 12354, 66}
	text, _, _ := impl.Encode(impl.PrJp, list)
	spoil(list)
	again, _, _ := impl.Encode(impl.PrJp, []int{65, 12354, 66})
	if text != "A\x1b$B$\"\x1b(BB" || again != text {
		t.Errorf("Encode %q, then %q", text, again)
	}
}

// Convention 2: an empty slice and nil are the same argument.
func TestEncodingNoCharacters(t *testing.T) {
	for _, row := range profileTable {
		for _, list := range [][]int{nil, {}} {
			checkEncode(t, row.number, row.header, list...)
			checkMarked(t, row.number, list, 63, row.header, impl.OK)
		}
	}
}
