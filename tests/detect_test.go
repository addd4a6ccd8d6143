package tests

import (
	"math/rand"
	"slices"
	"strings"
	"testing"

	"loop.example/g00748/impl"
)

// checkDetectAll checks what is detected of pieces.
func checkDetectAll(t *testing.T, pieces []string, code int, profiles ...int) {
	t.Helper()
	if list, c := impl.DetectAll(pieces); c != code || !slices.Equal(list, profiles) {
		t.Errorf("DetectAll(%.60q) = %v, %d, want %v, %d", pieces, list, c, profiles, code)
	}
}

// checkDetected checks what is detected of a string, whole and in pieces, and
// the offset of its first fault in each profile.
func checkDetected(t *testing.T, text string, offsets [impl.Profiles]int, profiles ...int) {
	t.Helper()
	if list, code := impl.Detect(text); code != impl.OK || !slices.Equal(list, profiles) {
		t.Errorf("Detect(%.60q) = %v, %d, want %v", text, list, code, profiles)
	}
	if list, code := impl.FirstFault(text); code != impl.OK || !slices.Equal(list, offsets[:]) {
		t.Errorf("FirstFault(%.60q) = %v, %d, want %v", text, list, code, offsets)
	}
	checkDetectAll(t, []string{text}, impl.OK, profiles...)
	checkDetectAll(t, []string{"", text, "", ""}, impl.OK, profiles...)
}

// checkDetectedInPieces checks what is detected of a string, split at every
// place, into single bytes and into random pieces.
func checkDetectedInPieces(t *testing.T, source *rand.Rand, text string, profiles ...int) {
	t.Helper()
	for at := range len(text) + 1 {
		checkDetectAll(t, cutAt(text, at), impl.OK, profiles...)
	}
	checkDetectAll(t, singleBytes(text, false), impl.OK, profiles...)
	checkDetectAll(t, singleBytes(text, true), impl.OK, profiles...)
	for range 3 {
		checkDetectAll(t, randomPieces(source, text, 1+source.Intn(6)), impl.OK, profiles...)
	}
}

// checkNotDetected checks a code that stands alone in all results.
func checkNotDetected(t *testing.T, text string, code int) {
	t.Helper()
	if list, c := impl.Detect(text); len(list) != 0 || c != code {
		t.Errorf("Detect of %d bytes = %v, %d, want %d", len(text), list, c, code)
	}
	if list, c := impl.FirstFault(text); len(list) != 0 || c != code {
		t.Errorf("FirstFault of %d bytes = %v, %d, want %d", len(text), list, c, code)
	}
}

// P13: strings that some profiles, all of them but one, one or none decode.
func TestDetectedProfiles(t *testing.T) {
	source := rand.New(rand.NewSource(13))
	for _, v := range []struct {
		text     string
		offsets  [impl.Profiles]int
		profiles []int
	}{
		// no profile decodes all: kr has a Header, and jp does not allow it
		{"AB\n", [...]int{3, 3, 0, 3, 3}, []int{1, 2, 4, 5}},
		{"\n", [...]int{1, 1, 0, 1, 1}, []int{1, 2, 4, 5}},
		{"\x1b(B \x00\x7f", [...]int{6, 6, 0, 6, 6}, []int{1, 2, 4, 5}},
		{"\x1b$)CAB\n", [...]int{0, 0, 7, 7, 7}, []int{3, 4, 5}},
		{"\x1b$)C\n\x1b$)C", [...]int{0, 0, 9, 9, 9}, []int{3, 4, 5}},
		{"\x1b(J~\x1b(B", [...]int{7, 7, 0, 0, 7}, []int{1, 2, 5}},
		{"A\x1b$B$\"\x1b(B\nB", [...]int{11, 11, 0, 1, 11}, []int{1, 2, 5}},
		{"\x1b$A0!\x1b(B", [...]int{0, 8, 0, 0, 8}, []int{2, 5}},
		{"A\x1b$)CB", [...]int{1, 1, 0, 6, 6}, []int{4, 5}},
		{"\x1b$)C\x0e0!\x0f", [...]int{0, 0, 8, 8, 4}, []int{3, 4}},
		// one profile only
		{"\x1b.A\x1bNi", [...]int{0, 6, 0, 0, 0}, []int{2}},
		{"\x1b$)C\n\x0e0!\x0f", [...]int{0, 0, 9, 6, 5}, []int{3}},
		{"\x0e\x0f", [...]int{0, 0, 0, 2, 0}, []int{4}},
		{"\x1b*I\x1bN!", [...]int{0, 0, 0, 6, 0}, []int{4}},
		{"\x1b$)A\x0e0!\x0f", [...]int{0, 0, 0, 8, 4}, []int{4}},
		{"\xe9", [...]int{0, 0, 0, 0, 1}, []int{5}},
		{"\x1b$)C\xb0\xa1", [...]int{0, 0, 4, 4, 6}, []int{5}},
		// a string or a line that ends away from rest
		{"\x1b$B$\"", [...]int{5, 5, 0, 0, 5}, []int{5}},
		{"AB\x1b(J", [...]int{5, 5, 0, 2, 5}, []int{5}},
		{"\x1b$B$\"\n\x1b(B", [...]int{5, 5, 0, 0, 9}, []int{5}},
		{"\x1b$)C\x0e0!", [...]int{0, 0, 7, 7, 4}, nil},
		// the middle of a code, of a single shift and of an escape sequence
		{"\x1b$B$", [...]int{4, 4, 0, 0, 4}, nil},
		{"\x1b$)C\x0e0", [...]int{0, 0, 6, 6, 4}, nil},
		{"\x1b$)C\xb0", [...]int{0, 0, 4, 4, 5}, nil},
		{"\x1bN", [...]int{0, 2, 0, 2, 0}, nil},
		{"\x1b.F\x1bN", [...]int{0, 5, 0, 0, 0}, nil},
		{"A\x1b", [...]int{1, 1, 0, 1, 1}, nil},
		{"A\n\x1b$", [...]int{2, 2, 0, 2, 2}, nil},
		// an error at the first byte, and at the last
		{"\x80AB", [...]int{0, 0, 0, 0, 0}, nil},
		{"\x1bZ", [...]int{0, 0, 0, 0, 0}, nil},
		{"\x1b$)CAB\x80", [...]int{0, 0, 6, 6, 6}, nil},
		{"AB\x80", [...]int{2, 2, 0, 2, 2}, nil},
		{"AB\xe9", [...]int{2, 2, 0, 2, 3}, []int{5}},
	} {
		checkDetected(t, v.text, v.offsets, v.profiles...)
		checkDetectedInPieces(t, source, v.text, v.profiles...)
	}
}

// The empty string is one that a profile without a Header decodes, also as no
// pieces and as empty ones.
func TestDetectingTheEmptyString(t *testing.T) {
	checkDetected(t, "", [...]int{0, 0, 0, 0, 0}, 1, 2, 4, 5)
	for _, pieces := range [][]string{nil, {}, {""}, {"", ""}, make([]string, impl.MaxList)} {
		checkDetectAll(t, pieces, impl.OK, 1, 2, 4, 5)
	}
}

func TestDetectingTheHeader(t *testing.T) {
	source := rand.New(rand.NewSource(3))
	checkDetected(t, "\x1b$)C", [...]int{0, 0, 4, 4, 4}, 3, 4, 5)
	checkDetectedInPieces(t, source, "\x1b$)C", 3, 4, 5)
	for _, part := range []string{"\x1b", "\x1b$", "\x1b$)"} {
		checkDetected(t, part, [...]int{0, 0, 0, 0, 0})
		checkDetectedInPieces(t, source, part)
	}
	// behind another token, and not the whole of it
	checkDetected(t, " \x1b$)C", [...]int{1, 1, 0, 5, 5}, 4, 5)
	checkDetected(t, "\x1b$)A", [...]int{0, 0, 0, 4, 4}, 4, 5)
	checkDetected(t, "\x1b$(C", [...]int{0, 4, 0, 0, 4}, 5)
}

// What the document says of a string in each profile.
func detectByDocument(chars *characters, text string) ([]int, [impl.Profiles]int) {
	var profiles []int
	var offsets [impl.Profiles]int
	for i, row := range profileTable {
		_, at, code := row.decodeByDocument(chars, text)
		if code == impl.OK {
			profiles = append(profiles, row.number)
		}
		offsets[i] = at
	}
	return profiles, offsets
}

// checkDetection checks P13 for any string: the profiles are those of ValidText
// and of Decode, the offsets those of GoodUpTo, and both those of the document.
func checkDetection(t *testing.T, chars *characters, text string) []int {
	t.Helper()
	profiles, offsets := detectByDocument(chars, text)
	checkDetected(t, text, offsets, profiles...)
	for i := range impl.Profiles {
		detected := slices.Contains(profiles, i+1)
		if valid, code := impl.ValidText(i+1, text); valid != detected || code != impl.OK {
			t.Errorf("%q is detected in %v, but ValidText(%d) is %v, %d", text, profiles, i+1, valid, code)
		}
		if _, at, code := impl.Decode(i+1, text); detected != (code == impl.OK) || at != offsets[i] {
			t.Errorf("%q is detected in %v, but Decode(%d) is %d at %d, not %d", text, profiles, i+1, code, at, offsets[i])
		}
		if at, code := impl.GoodUpTo(i+1, text); at != offsets[i] || code != impl.OK {
			t.Errorf("GoodUpTo(%d, %q) = %d, %d, want %d", i+1, text, at, code, offsets[i])
		}
	}
	return profiles
}

func TestDetectingValidStrings(t *testing.T) {
	chars := charactersOfSets()
	source := rand.New(rand.NewSource(14))
	for _, v := range validTexts {
		for _, behind := range []string{"", "\n", "\x1b(B", "\x1b$B$\"", "\x1b", "\x80", "\x0e"} {
			profiles := checkDetection(t, &chars, v.text+behind)
			checkDetectedInPieces(t, source, v.text+behind, profiles...)
			if behind == "" && !slices.Contains(profiles, v.n) {
				t.Errorf("Detect(%q) = %v without %d", v.text, profiles, v.n)
			}
		}
	}
}

// Of every encoding its own profile is detected, and with jp also jp2.
func TestDetectingEncodings(t *testing.T) {
	chars, all := charactersOfSets(), codesOfSets()
	eachProfile(t, func(t *testing.T, row profileRow) {
		source := rand.New(rand.NewSource(int64(row.number)))
		lists := row.characters(&all)
		for i := range 150 {
			text, _, _ := impl.Encode(row.number, randomList(source, lists, i%40))
			profiles := checkDetection(t, &chars, text)
			checkDetectedInPieces(t, source, text, profiles...)
			if !slices.Contains(profiles, row.number) || profiles[0] == impl.PrJp && profiles[1] != impl.PrJp2 {
				t.Errorf("Detect(%q) = %v", text, profiles)
			}
			if t.Failed() {
				return
			}
		}
	})
}

// Tokens of one profile and others, which one profile, several or none decode.
func TestDetectingRandomTokens(t *testing.T) {
	chars := charactersOfSets()
	eachProfile(t, func(t *testing.T, row profileRow) {
		source := rand.New(rand.NewSource(int64(row.number)))
		parts, found := row.partsOf(), 0
		for i := range 3000 {
			text := row.randomText(source, parts)
			profiles := checkDetection(t, &chars, text)
			if slices.Contains(profiles, row.number) {
				found++
			}
			if i%20 == 0 {
				checkDetectedInPieces(t, source, text, profiles...)
			}
			if t.Failed() {
				return
			}
		}
		if found < 50 {
			t.Errorf("only %d strings are valid in %s", found, row.name)
		}
	})
}

// Any bytes: all strings of up to two of those that matter, behind several
// starts, and random ones.
func TestDetectingAnyBytes(t *testing.T) {
	chars := charactersOfSets()
	source := rand.New(rand.NewSource(15))
	const some = "\x00\n\x0e\x0f\x1b !\"$()0ABCN~\x7f\x80\x8e\xa0\xa1\xb0\xe9\xff"
	for _, start := range []string{"", "\x1b$)C", "\x1b$", "\x1b$B", "\x1b$B$", "\x1b.F\x1bN", "\x1b$)C\x0e", "\x1b$)C\x0e0!\x0f", "\x1b$)C\xb0"} {
		for a := range len(some) {
			checkDetection(t, &chars, start+some[a:a+1])
			for b := range len(some) {
				checkDetection(t, &chars, start+some[a:a+1]+some[b:b+1])
			}
		}
	}
	for range 1000 {
		text := make([]byte, source.Intn(30))
		for i := range text {
			text[i] = byte(source.Intn(256))
		}
		for _, start := range []string{"", "\x1b$)C", "\x1b$B"} {
			profiles := checkDetection(t, &chars, start+string(text))
			checkDetectAll(t, randomPieces(source, start+string(text), 3), impl.OK, profiles...)
		}
	}
}

// P9, its second sentence: the characters 32 to 126 and 10 are their own bytes.
// Without the Header they are detected as all profiles that have none, and with
// it as those that allow its token.
func TestDetectingTextOfOwnBytes(t *testing.T) {
	source := rand.New(rand.NewSource(9))
	for i := range 3 * impl.MaxChars {
		own := make([]byte, i%(impl.MaxChars+1))
		var list []int
		for k := range own {
			own[k] = byte(32 + source.Intn(96))
			if own[k] == 127 {
				own[k] = 10
			}
			list = append(list, int(own[k]))
		}
		text, size := string(own), len(own)
		checkDetected(t, text, [...]int{size, size, 0, size, size}, 1, 2, 4, 5)
		checkDetected(t, "\x1b$)C"+text, [...]int{0, 0, size + 4, size + 4, size + 4}, 3, 4, 5)
		for _, row := range profileTable {
			if got, at, code := impl.Encode(row.number, list); got != row.header+text || at != 0 || code != impl.OK {
				t.Errorf("Encode(%d, %v) = %q, %d, %d", row.number, list, got, at, code)
			}
		}
		checkSpeakers(t, list, impl.OK, 1, 2, 3, 4, 5)
		checkBest(t, list, impl.PrJp, size, impl.OK)
	}
	for r := 32; r <= 126; r++ {
		checkDetected(t, string(rune(r)), [...]int{1, 1, 0, 1, 1}, 1, 2, 4, 5)
	}
	// and with the other characters below 128 neither 14, 15 nor 27
	checkDetected(t, "\x0e", [...]int{0, 0, 0, 1, 0})
	checkDetected(t, "\x0f", [...]int{0, 0, 0, 1, 0}, 4)
	checkDetected(t, "\x1b", [...]int{0, 0, 0, 0, 0})
}

func TestDetectingLongStrings(t *testing.T) {
	const most = impl.MaxList
	whole := strings.Repeat("a", most)
	checkDetected(t, whole, [...]int{most, most, 0, most, most}, 1, 2, 4, 5)
	checkDetected(t, "\x1b$)C"+whole[4:], [...]int{0, 0, most, most, most}, 3, 4, 5)
	checkDetected(t, strings.Repeat("\xe9", most), [...]int{0, 0, 0, 0, most}, 5)
	checkDetected(t, "\x1b$B"+strings.Repeat("0!", (most-6)/2)+"\x1b(B", [...]int{most, most, 0, 0, most}, 1, 2, 5)
	checkDetected(t, whole[1:]+"\x80", [...]int{most - 1, most - 1, 0, most - 1, most - 1})
	checkDetected(t, whole[1:]+"\x1b", [...]int{most - 1, most - 1, 0, most - 1, most - 1})
	checkDetected(t, whole[3:]+"\x1b(J", [...]int{most, most, 0, most - 3, most}, 5)
	for _, c := range []string{"a", "\x80", "\x1b", "\n", "\x00"} {
		for _, size := range []int{most + 1, most + 2, 2 * most, impl.MaxText - 1, impl.MaxText} {
			checkNotDetected(t, strings.Repeat(c, size), impl.ErrSize)
			checkDetectAll(t, []string{strings.Repeat(c, size)}, impl.ErrSize)
		}
		for _, size := range []int{impl.MaxText + 1, impl.MaxText + 2, 3 * impl.MaxText} {
			checkNotDetected(t, strings.Repeat(c, size), impl.ErrLong)
			// a piece is no argument itself
			checkDetectAll(t, []string{strings.Repeat(c, size)}, impl.ErrSize)
			checkDetectAll(t, []string{"", strings.Repeat(c, size), "A"}, impl.ErrSize)
		}
	}
}

// The pieces together have at most MaxList bytes, and there are at most MaxList
// of them.
func TestDetectingManyPieces(t *testing.T) {
	const most = impl.MaxList
	whole := strings.Repeat("a", most)
	for _, length := range []int{1, 2, 3, 1000, most - 1, most} {
		var pieces []string
		for rest := whole; rest != ""; {
			end := min(length, len(rest))
			pieces = append(pieces, rest[:end])
			rest = rest[end:]
		}
		checkDetectAll(t, pieces, impl.OK, 1, 2, 4, 5)
		last := pieces[len(pieces)-1]
		pieces[len(pieces)-1] = last[1:] + "\x80"
		checkDetectAll(t, pieces, impl.OK)
		pieces[len(pieces)-1] = last + "a"
		checkDetectAll(t, pieces, impl.ErrSize)
		pieces[0] += "\x80"
		checkDetectAll(t, pieces, impl.ErrSize)
	}
	checkDetectAll(t, append(slices.Repeat([]string{""}, most-1), whole), impl.OK, 1, 2, 4, 5)
	checkDetectAll(t, append(slices.Repeat([]string{""}, most-1), whole+"a"), impl.ErrSize)
	checkDetectAll(t, append([]string{whole, "a"}, make([]string, most-2)...), impl.ErrSize)
	// ErrLong comes before ErrSize
	for _, pieces := range [][]string{make([]string, most+1), slices.Repeat([]string{"a"}, most+1), slices.Repeat([]string{whole}, most+1), append(make([]string, most), whole+"a"), make([]string, impl.MaxText+1)} {
		checkDetectAll(t, pieces, impl.ErrLong)
	}
	// pieces of far more bytes than a string could have
	checkDetectAll(t, slices.Repeat([]string{longestPiece}, most), impl.ErrSize)
}

// P1: neither the pieces nor the unused capacity behind them change, and what a
// caller changes is in no other result.
func TestDetectionSharesNothing(t *testing.T) {
	pieces := []string{"A\x1b", "$B$", "", "\"\x1b(B"}
	whole := append(slices.Clone(pieces), "\x80", "\x80")
	impl.DetectAll(whole[:len(pieces)])
	if !slices.Equal(whole, append(slices.Clone(pieces), "\x80", "\x80")) {
		t.Errorf("DetectAll changed its argument %q", whole)
	}
	for _, call := range []func() []int{
		func() []int { list, _ := impl.Detect("A\x1b$B$\"\x1b(B"); return list },
		func() []int { list, _ := impl.DetectAll(pieces); return list },
		func() []int { list, _ := impl.FirstFault("A\x1b$B$\"\x1b(B"); return list },
	} {
		one, two := call(), call()
		want := slices.Clone(one)
		spoil(one)
		if three := call(); !slices.Equal(two, want) || !slices.Equal(three, want) {
			t.Error("the results of one call share memory", want, two, three)
		}
	}
	one, _ := impl.DetectAll(pieces)
	pieces[0] = "\x80"
	if !slices.Equal(one, []int{1, 2, 5}) {
		t.Error("a result of DetectAll changed with its argument", one)
	}
	checkDetectAll(t, pieces, impl.OK)
}
