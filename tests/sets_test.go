package tests

import (
	"maps"
	"math"
	"slices"
	"strings"
	"testing"

	"loop.example/g00748/impl"
)

// A setRow is a row of the table of chapter 3, with the number of its characters.
type setRow struct {
	number      int
	name        string
	kind, final int
	spans       [][3]int
	size        int
}

var setTable = []setRow{
	{impl.StAscii, "ascii", 1, 66, [][3]int{{33, 33, 94}}, 94},
	{impl.StRoman, "roman", 1, 74, [][3]int{{33, 33, 59}, {92, 165, 1}, {93, 93, 33}, {126, 8254, 1}}, 94},
	{impl.StKana, "kana", 1, 73, [][3]int{{33, 65377, 63}}, 63},
	{impl.StLatin, "latin", 2, 65, [][3]int{{32, 160, 96}}, 96},
	{impl.StGreek, "greek", 2, 70, [][3]int{{32, 160, 1}, {65, 913, 17}, {83, 931, 7}, {97, 945, 25}}, 50},
	{impl.StKanji, "kanji", 3, 66, [][3]int{{8993, 65296, 10}, {9249, 12353, 83}, {9505, 12449, 86}, {12321, 19968, 94}}, 273},
	{impl.StHangul, "hangul", 3, 67, [][3]int{{9249, 12353, 83}, {12321, 44032, 94}, {12577, 44126, 94}}, 271},
	{impl.StHanzi, "hanzi", 3, 65, [][3]int{{9249, 12353, 83}, {9505, 12449, 86}, {12321, 19998, 94}}, 263},
}

func (row setRow) sameSpans(list []impl.Span) bool {
	return slices.EqualFunc(list, row.spans, func(got impl.Span, want [3]int) bool {
		return got == impl.Span{Code: want[0], Rune: want[1], Count: want[2]}
	})
}

// characters lists the characters of a set by their codes.
func (row setRow) characters() map[int]int {
	list := map[int]int{}
	for _, span := range row.spans {
		for i := range span[2] {
			list[span[0]+i] = span[1] + i
		}
	}
	return list
}

// Numbers that are no set's, no kind's and no code's.
var farInts = []int{math.MinInt, math.MinInt + 1, math.MinInt + 33, math.MinInt32, -1 << 32, -65536, -9249, -256, -33, -8, -1,
	1 << 16, 1<<16 + 9249, 1 << 32, 1<<32 + 1, 1<<32 + 65, 1<<32 + 9249, math.MaxInt32, math.MaxInt - 1, math.MaxInt}

var noSets = append([]int{0, 9, 10, 65, 256, 257, 264}, farInts...)

func TestConstantsOfSetsAndKinds(t *testing.T) {
	if impl.Sets != 8 || impl.Kind94 != 1 || impl.Kind96 != 2 || impl.KindPair != 3 {
		t.Error("constants", impl.Sets, impl.Kind94, impl.Kind96, impl.KindPair)
	}
	for i, row := range setTable {
		if row.number != i+1 {
			t.Errorf("the number of %s is %d, want %d", row.name, row.number, i+1)
		}
	}
}

func TestSetsAreThoseOfTheRegistry(t *testing.T) {
	for _, row := range setTable {
		set, code := impl.SetOf(row.number)
		if code != impl.OK || set.Name != row.name || set.Kind != row.kind || set.Final != row.final || !row.sameSpans(set.Spans) {
			t.Errorf("SetOf(%d) = %v, %d", row.number, set, code)
		}
		if n, code := impl.SetNamed(row.name); n != row.number || code != impl.OK {
			t.Errorf("SetNamed(%q) = %d, %d", row.name, n, code)
		}
		if n, code := impl.FindSet(row.kind, row.final); n != row.number || code != impl.OK {
			t.Errorf("FindSet(%d, %d) = %d, %d", row.kind, row.final, n, code)
		}
		if size, code := impl.SizeOf(row.number); size != row.size || code != impl.OK {
			t.Errorf("SizeOf(%d) = %d, %d", row.number, size, code)
		}
	}
}

func TestNumbersThatAreNoSets(t *testing.T) {
	for _, n := range noSets {
		if set, code := impl.SetOf(n); code != impl.ErrNone || set.Name != "" || set.Kind != 0 || set.Final != 0 || len(set.Spans) != 0 {
			t.Errorf("SetOf(%d) = %v, %d", n, set, code)
		}
		if size, code := impl.SizeOf(n); size != 0 || code != impl.ErrNone {
			t.Errorf("SizeOf(%d) = %d, %d", n, size, code)
		}
		// also for what is no code of any kind and no character
		for _, x := range append([]int{0, 32, 33, 65, 9249, 12353}, farInts...) {
			checkCode(t, n, x, 0, impl.ErrNone)
			if impl.CodeOK(n, x) {
				t.Errorf("CodeOK(%d, %d) = true", n, x)
			}
			checkRune(t, n, x, 0, impl.ErrNone)
		}
	}
}

// checkCode checks the character of a code.
func checkCode(t *testing.T, set, code, r, want int) {
	t.Helper()
	if gr, gc := impl.RuneFor(set, code); gr != r || gc != want {
		t.Errorf("RuneFor(%d, %d) = %d, %d, want %d, %d", set, code, gr, gc, r, want)
	}
}

// checkRune checks the code of a character.
func checkRune(t *testing.T, set, r, code, want int) {
	t.Helper()
	if gc, got := impl.CodeFor(set, r); gc != code || got != want {
		t.Errorf("CodeFor(%d, %d) = %d, %d, want %d, %d", set, r, gc, got, code, want)
	}
}

func TestSetNamedAcceptsNothingButNames(t *testing.T) {
	for _, name := range []string{"", "a", "Ascii", "ASCII", "asci", "asciii", " ascii", "ascii ", "ascii\x00", "ascii\n", "asciiroman", "kan", "hang",
		"1", "jp", "StAscii", "\xff", "k\u00e1na", "\uff4bana", "\xe6\xbc\xa2\xe5\xad\x97", "0123456789012", strings.Repeat("a", impl.MaxText),
		"ascii" + strings.Repeat(" ", impl.MaxText-5)} {
		if n, code := impl.SetNamed(name); n != 0 || code != impl.ErrNone {
			t.Errorf("SetNamed(%.20q) = %d, %d", name, n, code)
		}
	}
	for _, name := range []string{strings.Repeat("a", impl.MaxText+1), "ascii" + strings.Repeat("\x00", impl.MaxText), strings.Repeat("\xff", 3*impl.MaxText)} {
		if n, code := impl.SetNamed(name); n != 0 || code != impl.ErrLong {
			t.Errorf("SetNamed of %d bytes = %d, %d", len(name), n, code)
		}
	}
}

func TestFindSetOfEveryFinalByte(t *testing.T) {
	type key struct{ kind, final int }
	numbers := map[key]int{}
	for _, row := range setTable {
		numbers[key{row.kind, row.final}] = row.number
	}
	for kind := 1; kind <= 3; kind++ {
		finals := slices.Clone(farInts)
		for final := -300; final <= 600; final++ {
			finals = append(finals, final)
		}
		for _, final := range finals {
			want, wantCode := numbers[key{kind, final}], impl.OK
			if want == 0 {
				wantCode = impl.ErrNone
			}
			if n, code := impl.FindSet(kind, final); n != want || code != wantCode {
				t.Errorf("FindSet(%d, %d) = %d, %d, want %d, %d", kind, final, n, code, want, wantCode)
			}
		}
	}
}

// A kind that is none comes before a final byte that no set has.
func TestFindSetOfWhatIsNoKind(t *testing.T) {
	for _, kind := range append([]int{0, 4, 5, 257}, farInts...) {
		for _, final := range append([]int{0, 65, 66, 67, 70, 73, 74, 127}, farInts...) {
			if n, code := impl.FindSet(kind, final); n != 0 || code != impl.ErrKind {
				t.Errorf("FindSet(%d, %d) = %d, %d", kind, final, n, code)
			}
		}
	}
}

// codesOfKind lists the codes of a kind byte by byte.
func codesOfKind(kind int) map[int]bool {
	codes := map[int]bool{}
	switch kind {
	case 1:
		for b := 33; b <= 126; b++ {
			codes[b] = true
		}
	case 2:
		for b := 32; b <= 127; b++ {
			codes[b] = true
		}
	case 3:
		for a := 33; a <= 126; a++ {
			for b := 33; b <= 126; b++ {
				codes[256*a+b] = true
			}
		}
	}
	return codes
}

// P3, from codes to characters: every number of two bytes and more, in every set.
func TestEveryCodeHasItsCharacter(t *testing.T) {
	for _, row := range setTable {
		codes, characters := codesOfKind(row.kind), row.characters()
		if len(characters) != row.size {
			t.Fatalf("the table of %s has %d characters", row.name, len(characters))
		}
		all := slices.Clone(farInts)
		for code := -70000; code <= 140000; code++ {
			all = append(all, code)
		}
		for _, code := range all {
			if got := impl.CodeOK(row.number, code); got != codes[code] {
				t.Fatalf("CodeOK(%d, %d) = %v", row.number, code, got)
			}
			r, mapped := characters[code]
			want := impl.OK
			switch {
			case !codes[code]:
				r, want = 0, impl.ErrRange
			case !mapped:
				want = impl.ErrUnmapped
			}
			checkCode(t, row.number, code, r, want)
			if want == impl.OK {
				checkRune(t, row.number, r, code, impl.OK)
			}
			if t.Failed() {
				return
			}
		}
	}
}

// P3, from characters to codes: every character, in every set.
func TestEveryCharacterHasItsCode(t *testing.T) {
	for _, row := range setTable {
		back := map[int]int{}
		for code, r := range row.characters() {
			back[r] = code
		}
		if len(back) != row.size {
			t.Fatalf("two codes of %s have the same character", row.name)
		}
		for r := -1000; r <= impl.MaxRune+1000; r++ {
			code, ok := back[r]
			want := impl.OK
			if !ok {
				want = impl.ErrUnmapped
			}
			checkRune(t, row.number, r, code, want)
			if ok {
				checkCode(t, row.number, code, r, impl.OK)
			}
			if t.Failed() {
				return
			}
		}
		for _, r := range []int{math.MinInt, math.MinInt + 65, math.MinInt32, 1 << 32, 1<<32 + 65, 1<<32 + 12353, math.MaxInt - 1, math.MaxInt} {
			checkRune(t, row.number, r, 0, impl.ErrUnmapped)
		}
	}
}

// The first and the last code of each span and the codes beside them, written out.
func TestCodesAtTheLimitsOfSpans(t *testing.T) {
	for _, v := range []struct{ set, code, r, want int }{
		{impl.StAscii, 32, 0, impl.ErrRange}, {impl.StAscii, 33, 33, impl.OK}, {impl.StAscii, 126, 126, impl.OK}, {impl.StAscii, 127, 0, impl.ErrRange},
		{impl.StRoman, 32, 0, impl.ErrRange}, {impl.StRoman, 33, 33, impl.OK}, {impl.StRoman, 91, 91, impl.OK}, {impl.StRoman, 92, 165, impl.OK},
		{impl.StRoman, 93, 93, impl.OK}, {impl.StRoman, 125, 125, impl.OK}, {impl.StRoman, 126, 8254, impl.OK}, {impl.StRoman, 127, 0, impl.ErrRange},
		{impl.StKana, 32, 0, impl.ErrRange}, {impl.StKana, 33, 65377, impl.OK}, {impl.StKana, 95, 65439, impl.OK},
		{impl.StKana, 96, 0, impl.ErrUnmapped}, {impl.StKana, 126, 0, impl.ErrUnmapped}, {impl.StKana, 127, 0, impl.ErrRange},
		{impl.StLatin, 31, 0, impl.ErrRange}, {impl.StLatin, 32, 160, impl.OK}, {impl.StLatin, 127, 255, impl.OK}, {impl.StLatin, 128, 0, impl.ErrRange},
		{impl.StGreek, 31, 0, impl.ErrRange}, {impl.StGreek, 32, 160, impl.OK}, {impl.StGreek, 33, 0, impl.ErrUnmapped}, {impl.StGreek, 64, 0, impl.ErrUnmapped},
		{impl.StGreek, 65, 913, impl.OK}, {impl.StGreek, 81, 929, impl.OK}, {impl.StGreek, 82, 0, impl.ErrUnmapped}, {impl.StGreek, 83, 931, impl.OK},
		{impl.StGreek, 89, 937, impl.OK}, {impl.StGreek, 90, 0, impl.ErrUnmapped}, {impl.StGreek, 96, 0, impl.ErrUnmapped}, {impl.StGreek, 97, 945, impl.OK},
		{impl.StGreek, 121, 969, impl.OK}, {impl.StGreek, 122, 0, impl.ErrUnmapped}, {impl.StGreek, 127, 0, impl.ErrUnmapped}, {impl.StGreek, 128, 0, impl.ErrRange},
		{impl.StKanji, 0x2320, 0, impl.ErrRange}, {impl.StKanji, 0x2321, 65296, impl.OK}, {impl.StKanji, 0x232a, 65305, impl.OK}, {impl.StKanji, 0x232b, 0, impl.ErrUnmapped},
		{impl.StKanji, 0x2420, 0, impl.ErrRange}, {impl.StKanji, 0x2421, 12353, impl.OK}, {impl.StKanji, 0x2473, 12435, impl.OK}, {impl.StKanji, 0x2474, 0, impl.ErrUnmapped},
		{impl.StKanji, 0x2520, 0, impl.ErrRange}, {impl.StKanji, 0x2521, 12449, impl.OK}, {impl.StKanji, 0x2576, 12534, impl.OK}, {impl.StKanji, 0x2577, 0, impl.ErrUnmapped},
		{impl.StKanji, 0x3020, 0, impl.ErrRange}, {impl.StKanji, 0x3021, 19968, impl.OK}, {impl.StKanji, 0x307e, 20061, impl.OK}, {impl.StKanji, 0x307f, 0, impl.ErrRange},
		{impl.StKanji, 0x3121, 0, impl.ErrUnmapped},
		{impl.StHangul, 0x2321, 0, impl.ErrUnmapped}, {impl.StHangul, 0x2421, 12353, impl.OK}, {impl.StHangul, 0x2473, 12435, impl.OK}, {impl.StHangul, 0x2474, 0, impl.ErrUnmapped},
		{impl.StHangul, 0x2521, 0, impl.ErrUnmapped}, {impl.StHangul, 0x3021, 44032, impl.OK}, {impl.StHangul, 0x307e, 44125, impl.OK}, {impl.StHangul, 0x307f, 0, impl.ErrRange},
		{impl.StHangul, 0x3120, 0, impl.ErrRange}, {impl.StHangul, 0x3121, 44126, impl.OK}, {impl.StHangul, 0x317e, 44219, impl.OK}, {impl.StHangul, 0x317f, 0, impl.ErrRange},
		{impl.StHangul, 0x3221, 0, impl.ErrUnmapped},
		{impl.StHanzi, 0x2421, 12353, impl.OK}, {impl.StHanzi, 0x2576, 12534, impl.OK}, {impl.StHanzi, 0x2577, 0, impl.ErrUnmapped},
		{impl.StHanzi, 0x3021, 19998, impl.OK}, {impl.StHanzi, 0x307e, 20091, impl.OK}, {impl.StHanzi, 0x307f, 0, impl.ErrRange}, {impl.StHanzi, 0x3121, 0, impl.ErrUnmapped},
	} {
		checkCode(t, v.set, v.code, v.r, v.want)
		if got := impl.CodeOK(v.set, v.code); got != (v.want != impl.ErrRange) {
			t.Errorf("CodeOK(%d, %d) = %v", v.set, v.code, got)
		}
		if v.want == impl.OK {
			checkRune(t, v.set, v.r, v.code, impl.OK)
		}
	}
}

// Pairs at the end of a row and behind it, and with a byte that no pair has.
func TestPairsAtTheEndOfARow(t *testing.T) {
	for _, set := range []int{impl.StKanji, impl.StHangul, impl.StHanzi} {
		for first := 33; first <= 126; first++ {
			for _, second := range []int{33, 126} {
				if !impl.CodeOK(set, 256*first+second) {
					t.Errorf("CodeOK(%d, %d %d) = false", set, first, second)
				}
			}
			for _, second := range []int{0, 10, 31, 32, 127, 128, 161, 254, 255} {
				if impl.CodeOK(set, 256*first+second) {
					t.Errorf("CodeOK(%d, %d %d) = true", set, first, second)
				}
				checkCode(t, set, 256*first+second, 0, impl.ErrRange)
			}
		}
		for _, first := range []int{-93, -33, -1, 0, 1, 32, 127, 128, 161, 255, 256, 289, 1 << 24, 1<<24 + 36} {
			for _, second := range []int{0, 32, 33, 65, 126, 127, 255} {
				if impl.CodeOK(set, 256*first+second) {
					t.Errorf("CodeOK(%d, %d %d) = true", set, first, second)
				}
				checkCode(t, set, 256*first+second, 0, impl.ErrRange)
			}
		}
	}
}

func TestCharactersThatASetDoesNotContain(t *testing.T) {
	for _, v := range []struct{ set, r int }{
		{impl.StAscii, 32}, {impl.StAscii, 127}, {impl.StAscii, 10}, {impl.StAscii, 165}, {impl.StRoman, 92}, {impl.StRoman, 126}, {impl.StRoman, 164},
		{impl.StKana, 65376}, {impl.StKana, 65440}, {impl.StLatin, 159}, {impl.StLatin, 256}, {impl.StGreek, 161}, {impl.StGreek, 912}, {impl.StGreek, 930},
		{impl.StGreek, 938}, {impl.StGreek, 944}, {impl.StGreek, 970}, {impl.StKanji, 65295}, {impl.StKanji, 65306}, {impl.StKanji, 12352},
		{impl.StKanji, 12436}, {impl.StKanji, 12535}, {impl.StKanji, 19967}, {impl.StKanji, 20062}, {impl.StHangul, 12449}, {impl.StHangul, 44031},
		{impl.StHangul, 44220}, {impl.StHanzi, 19997}, {impl.StHanzi, 20092}, {impl.StHanzi, 65296}, {impl.StKanji, 9249}, {impl.StKanji, 55296},
	} {
		checkRune(t, v.set, v.r, 0, impl.ErrUnmapped)
	}
}

func TestSetsForOfEveryCharacter(t *testing.T) {
	sets := map[int][]int{}
	for _, row := range setTable {
		for r := range maps.Values(row.characters()) {
			sets[r] = append(sets[r], row.number)
		}
	}
	for r := -1000; r <= impl.MaxRune+1000; r++ {
		if got := impl.SetsFor(r); !slices.Equal(got, sets[r]) {
			t.Fatalf("SetsFor(%d) = %v, want %v", r, got, sets[r])
		}
	}
	for _, v := range []struct {
		r    int
		sets []int
	}{
		{33, []int{1, 2}}, {65, []int{1, 2}}, {92, []int{1}}, {126, []int{1}}, {160, []int{4, 5}}, {165, []int{2, 4}}, {255, []int{4}}, {913, []int{5}},
		{8254, []int{2}}, {12353, []int{6, 7, 8}}, {12435, []int{6, 7, 8}}, {12449, []int{6, 8}}, {19968, []int{6}}, {19998, []int{6, 8}}, {20061, []int{6, 8}},
		{20062, []int{8}}, {44032, []int{7}}, {65296, []int{6}}, {65377, []int{3}}, {0, nil}, {10, nil}, {32, nil}, {127, nil}, {128, nil}, {159, nil},
		{930, nil}, {12436, nil}, {55296, nil}, {65533, nil}, {1114112, nil}, {-1, nil}, {-33, nil}, {math.MinInt, nil}, {math.MaxInt, nil}, {1<<32 + 65, nil},
	} {
		if got := impl.SetsFor(v.r); !slices.Equal(got, v.sets) {
			t.Errorf("SetsFor(%d) = %v, want %v", v.r, got, v.sets)
		}
	}
}

// The size of a set is the number of codes that have a character.
func TestSizeOfCountsTheCharacters(t *testing.T) {
	for set := 1; set <= impl.Sets; set++ {
		count := 0
		for code := range 1 << 16 {
			if _, c := impl.RuneFor(set, code); c == impl.OK {
				count++
			}
		}
		if size, code := impl.SizeOf(set); size != count || code != impl.OK {
			t.Errorf("SizeOf(%d) = %d, %d, but %d codes have a character", set, size, code, count)
		}
	}
}
