package tests

import (
	"math"
	"slices"
	"strings"
	"testing"

	"loop.example/g00748/impl"
)

const maxCount = 1000000000

// refuseEncoder checks that an encoder is invalid, in all functions that take one.
func refuseEncoder(t *testing.T, e impl.Encoder) {
	t.Helper()
	for _, piece := range []string{"", "A", "\n", "\x82", "\xff", "\x1b", longestPiece} {
		checkText(t, e, piece, impl.Encoder{}, "", impl.ErrBad)
	}
	checkText(t, e, tooLongPiece, impl.Encoder{}, "", impl.ErrLong)
	checkClose(t, e, impl.Encoder{}, "", impl.ErrBad)
	if impl.EncoderOK(e) || impl.SameEncoder(e, e) {
		t.Errorf("%+v is valid", e)
	}
}

func acceptEncoder(t *testing.T, e impl.Encoder) {
	t.Helper()
	_, _, one := impl.WriteText(e, "")
	_, _, two := impl.CloseEncoder(e)
	if one == impl.ErrBad && e.Code != impl.ErrBad || two == impl.ErrBad && e.Code != impl.ErrBad {
		t.Errorf("%+v is invalid: %d, %d", e, one, two)
	}
	checkEncoder(t, "a valid encoder", e, e)
}

// goodEncoders lists encoders of a profile that are valid for different reasons.
func goodEncoders(n int) []impl.Encoder {
	return []impl.Encoder{
		{Profile: n},
		{Profile: n, Begun: true},
		{Profile: n, Count: 3, Line: []int{65, 9, 127}},
		{Profile: n, Count: 70, Rest: "\xe3\x81", Line: []int{66}, Begun: true},
		{Profile: n, Count: 5, Over: true},
		{Profile: n, Count: 5, Code: impl.ErrUtf, Over: true},
		{Profile: n, Code: impl.ErrShort, Begun: true, Over: true},
	}
}

// The numbers of an encoder: each of them alone makes it invalid.
func TestNumbersOfEncoders(t *testing.T) {
	refuseEncoder(t, impl.Encoder{})
	for _, row := range profileTable {
		for _, good := range goodEncoders(row.number) {
			acceptEncoder(t, good)
			for _, n := range noProfiles {
				bad := good
				bad.Profile = n
				refuseEncoder(t, bad)
			}
			for _, count := range []int{len(good.Line), len(good.Line) + 1, 4097, 65537, maxWritten, maxWritten + 1, maxCount - 1, maxCount} {
				other := good
				other.Count = count
				acceptEncoder(t, other)
			}
			for _, count := range []int{math.MinInt, -maxCount, -2, -1, len(good.Line) - 1, maxCount + 1, maxCount + 2, 1 << 32, math.MaxInt - 1, math.MaxInt} {
				bad := good
				bad.Count = count
				refuseEncoder(t, bad)
			}
			for _, code := range []int{math.MinInt, -19, -2, -1, impl.ErrSame + 1, impl.ErrSame + 2, 255, 256, 1 << 32, math.MaxInt} {
				bad := good
				bad.Code = code
				refuseEncoder(t, bad)
				refuseEncoder(t, endedEncoder(good, code))
			}
			if t.Failed() {
				return
			}
		}
	}
}

// A code other than OK ends an encoder, and then nothing waits.
func TestEncodersWithACode(t *testing.T) {
	for _, row := range profileTable {
		for _, good := range goodEncoders(row.number) {
			for code := impl.OK; code <= impl.ErrSame; code++ {
				acceptEncoder(t, endedEncoder(good, code))
				other := good
				other.Code, other.Over = code, false
				if code == impl.OK {
					acceptEncoder(t, other)
				} else {
					refuseEncoder(t, other)
				}
				if other.Over = true; other.Rest != "" || len(other.Line) > 0 {
					refuseEncoder(t, other)
				}
			}
			over := endedEncoder(good, impl.OK)
			over.Rest = "\xe3"
			refuseEncoder(t, over)
			over = endedEncoder(good, impl.OK)
			over.Line, over.Count = []int{65}, 9
			refuseEncoder(t, over)
			over.Code = impl.ErrUtf
			refuseEncoder(t, over)
		}
	}
}

// The waiting bytes are what TakeRune finds truncated.
func TestWaitingBytesOfEncoders(t *testing.T) {
	list := []string{""}
	for _, a := range edgeBytes {
		list = append(list, string([]byte{a}))
		for _, b := range edgeBytes {
			list = append(list, string([]byte{a, b}))
			for _, c := range edgeBytes {
				list = append(list, string([]byte{a, b, c}))
			}
		}
	}
	waiting := 0
	for i, rest := range list {
		_, _, code := takeByDocument(rest, 0)
		valid := rest == "" || code == impl.ErrShort
		for _, line := range [][]int{nil, {65}} {
			e := impl.Encoder{Profile: 1 + i%5, Count: 1, Rest: rest, Line: line, Begun: i%2 == 0}
			if _, _, code := impl.CloseEncoder(e); impl.EncoderOK(e) != valid || impl.SameEncoder(e, e) != valid || (code == impl.ErrBad) == valid {
				t.Fatalf("EncoderOK(%+v) = %v, closed: %d", e, !valid, code)
			}
		}
		if valid {
			waiting++
		}
	}
	// of the bytes above, 15 begin a sequence; behind 11 of them one of 7 bytes
	// may wait, and behind 5 of them two
	if want := 1 + 15 + 11*7 + 5*7*7; waiting != want {
		t.Errorf("%d encoders with waiting bytes are valid, want %d", waiting, want)
	}
	for _, row := range profileTable {
		for _, rest := range []string{"\xf0\x9f\x98", "\xf7\xbf\xbf", "\xc0"} {
			acceptEncoder(t, impl.Encoder{Profile: row.number, Rest: rest})
		}
		for _, rest := range []string{"A", "\xff", "\x80", "\xe3A", "\xe3\x81\x82", "\xf0\x9f\x98\x80", "\xf0\x80\x80\x80", "\xe3\x81\x82\xe3", "\xf0\x9f\x98\x80\xf0", strings.Repeat("\xe3", impl.MaxText), strings.Repeat("\xe3\x81", impl.MaxText)} {
			refuseEncoder(t, impl.Encoder{Profile: row.number, Rest: rest})
		}
	}
}

// The waiting characters: which they are, and how many.
func TestWaitingCharactersOfEncoders(t *testing.T) {
	all := codesOfSets()
	some := append(append(charactersToTry(), notCharacters...), 10, 14, 15, 27, 233, 12354, 44032, 65377)
	for _, row := range profileTable {
		for _, r := range some {
			valid := impl.RuneOK(r) && row.canByDocument(&all, r) && !(row.reset && r == 10)
			for _, line := range [][]int{{r}, {65, r}, {r, 65}, append(slices.Repeat([]int{97}, impl.MaxChars-1), r)} {
				e := impl.Encoder{Profile: row.number, Count: len(line), Line: line}
				if impl.EncoderOK(e) != valid || impl.SameEncoder(e, e) != valid {
					t.Errorf("EncoderOK(%+v) = %v", e, !valid)
				}
			}
			if t.Failed() {
				return
			}
		}
		for _, r := range []int{14, 27, 128, impl.Missing, -1, 55296, impl.MaxRune + 1, math.MinInt, math.MaxInt} {
			refuseEncoder(t, impl.Encoder{Profile: row.number, Count: 3, Line: []int{65, r, 66}, Begun: true})
		}
		for _, size := range []int{0, 1, 59, 60} {
			acceptEncoder(t, impl.Encoder{Profile: row.number, Count: size, Line: slices.Repeat([]int{97}, size)})
		}
		for _, size := range []int{61, 62, 100, impl.MaxList, impl.MaxList + 1, impl.MaxText + 1} {
			refuseEncoder(t, impl.Encoder{Profile: row.number, Count: size, Line: slices.Repeat([]int{97}, size)})
			refuseEncoder(t, impl.Encoder{Profile: row.number, Count: maxCount, Line: slices.Repeat([]int{97}, size), Begun: true})
		}
		lines := impl.Encoder{Profile: row.number, Count: 2, Line: []int{65, 10}}
		if row.reset {
			refuseEncoder(t, lines)
		} else {
			acceptEncoder(t, lines)
		}
	}
}

// validEncoder is the paragraph of chapter 10 on the fields.
func (row profileRow) validEncoder(all *codes, e impl.Encoder) bool {
	if e.Count < len(e.Line) || e.Count > maxCount || e.Code < 0 || e.Code > impl.ErrSame || len(e.Line) > impl.MaxChars {
		return false
	}
	if _, _, code := takeByDocument(e.Rest, 0); e.Rest != "" && code != impl.ErrShort {
		return false
	}
	for _, r := range e.Line {
		if !row.canByDocument(all, r) || row.reset && r == 10 {
			return false
		}
	}
	return (!e.Over || e.Rest == "" && len(e.Line) == 0) && (e.Code == impl.OK || e.Over)
}

// fieldsOfEncoders combines values of all fields but Profile.
func fieldsOfEncoders(yield func(e impl.Encoder) bool) {
	for _, count := range []int{-1, 0, 1, 2, maxCount, maxCount + 1} {
		for _, code := range []int{-1, impl.OK, impl.ErrUtf, impl.ErrSame, impl.ErrSame + 1} {
			for _, rest := range []string{"", "\xe3", "\xe3\x81", "a", "\xff", "\xe3\x81\x82"} {
				for _, line := range [][]int{nil, {65}, {10}, {65, 66}, {65, 12354}, {27}, {165}, {44032}} {
					for i := range 4 {
						if !yield(impl.Encoder{Count: count, Code: code, Rest: rest, Line: line, Begun: i%2 == 1, Over: i > 1}) {
							return
						}
					}
				}
			}
		}
	}
}

func TestEncoderOKIsAsDocumented(t *testing.T) {
	all := codesOfSets()
	eachProfile(t, func(t *testing.T, row profileRow) {
		for e := range fieldsOfEncoders {
			e.Profile = row.number
			if want := row.validEncoder(&all, e); impl.EncoderOK(e) != want {
				t.Fatalf("EncoderOK(%+v) = %v", e, !want)
			}
		}
	})
}

// SameEncoder of every two of these: it is true for equal ones that are valid.
func TestSameEncoder(t *testing.T) {
	all := codesOfSets()
	eachProfile(t, func(t *testing.T, row profileRow) {
		var list []impl.Encoder
		for e := range fieldsOfEncoders {
			e.Profile = row.number
			if row.validEncoder(&all, e) || len(list)%7 == 0 {
				list = append(list, e)
			}
		}
		same := 0
		for _, a := range list {
			for _, b := range list {
				want := equalEncoders(a, b) && row.validEncoder(&all, a)
				if b.Line = slices.Clone(b.Line); impl.SameEncoder(a, b) != want {
					t.Fatalf("SameEncoder(%+v, %+v) = %v", a, b, !want)
				}
				if want {
					same++
				}
			}
		}
		if same < 100 {
			t.Errorf("only %d encoders are equal", same)
		}
	})
}

// One field differs, each in its turn, in both orders.
func TestEncodersThatDiffer(t *testing.T) {
	e := impl.Encoder{Profile: 1, Count: 9, Rest: "\xe3", Line: []int{65, 66}}
	over := impl.Encoder{Profile: 1, Count: 9, Code: 16, Over: true}
	check := func(e impl.Encoder, change func(e *impl.Encoder)) {
		t.Helper()
		other := e
		other.Line = slices.Clone(e.Line)
		if !impl.SameEncoder(e, other) || !impl.SameEncoder(other, e) {
			t.Errorf("SameEncoder of %+v and a copy", e)
		}
		change(&other)
		if !impl.EncoderOK(other) || impl.SameEncoder(e, other) || impl.SameEncoder(other, e) || !impl.SameEncoder(other, other) {
			t.Errorf("SameEncoder of %+v and %+v", e, other)
		}
	}
	for n := 2; n <= 5; n++ {
		check(e, func(e *impl.Encoder) { e.Profile = n })
		check(over, func(e *impl.Encoder) { e.Profile = n })
	}
	check(e, func(e *impl.Encoder) { e.Count = 10 })
	check(e, func(e *impl.Encoder) { e.Count = maxCount })
	check(e, func(e *impl.Encoder) { e.Rest = "" })
	check(e, func(e *impl.Encoder) { e.Rest = "\xe3\x81" })
	check(e, func(e *impl.Encoder) { e.Rest = "\xe4" })
	check(e, func(e *impl.Encoder) { e.Line = nil })
	check(e, func(e *impl.Encoder) { e.Line = []int{65} })
	check(e, func(e *impl.Encoder) { e.Line = []int{65, 67} })
	check(e, func(e *impl.Encoder) { e.Line = []int{66, 65} })
	check(e, func(e *impl.Encoder) { e.Line = []int{65, 66, 66} })
	check(e, func(e *impl.Encoder) { e.Begun = true })
	check(e, func(e *impl.Encoder) { *e = endedEncoder(*e, impl.OK) })
	check(over, func(e *impl.Encoder) { e.Code = 12 })
	check(over, func(e *impl.Encoder) { e.Code = 0 })
	check(over, func(e *impl.Encoder) { e.Begun = true })
	check(impl.Encoder{Profile: 3, Over: true}, func(e *impl.Encoder) { e.Over = false })
	// no characters are no characters
	a, b := impl.Encoder{Profile: 2}, impl.Encoder{Profile: 2, Line: []int{}}
	if !impl.SameEncoder(a, b) || !impl.SameEncoder(b, a) || !impl.SameEncoder(b, b) {
		t.Error("SameEncoder: nil and the empty line differ")
	}
}

// Count may come to the limit with the length of the piece, but not beyond.
func TestEncodersThatAreFull(t *testing.T) {
	for _, row := range profileTable {
		for _, e := range []impl.Encoder{{Profile: row.number}, {Profile: row.number, Line: []int{65}, Begun: true}, {Profile: row.number, Rest: "\xe3\x81", Line: []int{65, 66}}} {
			for _, piece := range []string{"", "\x82", "A\xc3", "\xe3\x81\x82", "\xff", "\x1b", "\n\xff", longestPiece} {
				fits := maxWritten - len(piece)
				for _, e.Count = range []int{fits + 1, fits + 2, maxWritten + 1, maxCount - 1, maxCount} {
					checkText(t, e, piece, e, "", impl.ErrFull)
				}
				for _, e.Count = range []int{fits, fits - 1} {
					if _, _, code := impl.WriteText(e, piece); code == impl.ErrFull {
						t.Errorf("WriteText(%+v, %.60q): ErrFull", e, piece)
					}
				}
			}
		}
		// the bytes count and not the characters, and Rest does not
		e := impl.Encoder{Profile: row.number, Count: maxWritten - 1, Line: []int{65}, Begun: true}
		full := waitingEncoder(e, 65, 66)
		full.Count++
		checkText(t, e, "B", full, "", impl.OK)
		checkText(t, e, "\xe3\x81", e, "", impl.ErrFull)
		e.Count--
		rest := e
		rest.Rest = "\xe3\x81"
		checkText(t, e, "\xe3\x81", rest, "", impl.OK)
		full = waitingEncoder(rest, 65, 12354)
		full.Count, full.Rest = maxWritten-1, ""
		checkText(t, rest, "\x82", full, "", impl.OK)
		checkText(t, rest, "\x82BC", rest, "", impl.ErrFull)
		checkText(t, full, "", full, "", impl.OK)
		// the end of the input has no such limit
		e.Count = maxCount
		checkFinished(t, e, "A")
		rest.Count = maxCount
		checkCutOff(t, rest)
	}
	start := impl.Encoder{Profile: impl.PrJp, Count: maxWritten - 3}
	checkText(t, start, "A\nB", impl.Encoder{Profile: impl.PrJp, Count: maxWritten, Line: []int{66}, Begun: true}, "A\n", impl.OK)
	checkStop(t, start, "A\n\xff", 2, "A\n", impl.ErrUtf)
	checkText(t, start, "A\n\xff\xff", start, "", impl.ErrFull)
}

// The order of the codes of WriteText: ErrLong, ErrBad, the code of an encoder
// that is over, ErrFull, and then those of the characters in turn.
func TestOrderOfTheCodesOfEncoders(t *testing.T) {
	for _, row := range profileTable {
		n := row.number
		for _, e := range append(goodEncoders(n), impl.Encoder{}, impl.Encoder{Profile: n, Count: maxCount}, impl.Encoder{Profile: n, Code: 16}, impl.Encoder{Profile: n, Count: maxCount, Code: 16, Over: true}) {
			checkText(t, e, tooLongPiece, impl.Encoder{}, "", impl.ErrLong)
		}
		// invalid, over and full
		bad := impl.Encoder{Profile: n, Count: maxCount + 1, Code: impl.ErrUtf, Over: true}
		refuseEncoder(t, bad)
		bad = impl.Encoder{Profile: n, Count: maxCount, Code: impl.ErrUtf, Line: []int{65}, Over: true}
		refuseEncoder(t, bad)
		bad = impl.Encoder{Profile: n, Count: maxCount, Rest: "\xff"}
		refuseEncoder(t, bad)
		// over and full
		for code := impl.OK; code <= impl.ErrSame; code++ {
			for _, count := range []int{0, 61, maxWritten, maxCount} {
				for _, begun := range []bool{false, true} {
					checkStays(t, impl.Encoder{Profile: n, Count: count, Code: code, Begun: begun, Over: true})
				}
			}
		}
		// ErrUtf, ErrUnmapped and ErrMany: the first character decides, and of one
		// character the first code
		few := impl.Encoder{Profile: n, Count: 2, Line: []int{65, 66}, Begun: true}
		checkStop(t, few, "\xff\x1b", 0, "", impl.ErrUtf)
		checkStop(t, few, "\x1b\xff", 0, "", impl.ErrUnmapped)
		many := waitingEncoder(few, slices.Repeat([]int{97}, impl.MaxChars)...)
		many.Count = 60
		checkStop(t, many, "\x1ba", 0, "", impl.ErrUnmapped)
		checkStop(t, many, "a\x1b", 0, "", impl.ErrMany)
		checkStop(t, many, "a\xff", 0, "", impl.ErrMany)
		checkStop(t, many, "\xffa", 0, "", impl.ErrUtf)
		// an incomplete sequence has no code before the end
		many.Rest = "\xe3"
		checkText(t, waitingEncoder(many, many.Line...), "\x81", impl.Encoder{Profile: n, Count: 60, Rest: "\xe3\x81", Line: many.Line, Begun: true}, "", impl.OK)
		checkCutOff(t, many)
	}
}

// The order ErrLong, ErrNone, ErrSize, and then the codes of the encoder.
func TestLimitsOfEncodePieces(t *testing.T) {
	letters := strings.Repeat("A\n", impl.MaxList/2)
	for n := -1; n <= 7; n++ {
		for _, piece := range []string{"", "A", "\xff", tooLongPiece} {
			checkEncodePieces(t, n, slices.Repeat([]string{piece}, impl.MaxList+1), "", 0, impl.ErrLong)
		}
	}
	for _, n := range noProfiles {
		checkEncodePieces(t, n, []string{letters, "A"}, "", 0, impl.ErrNone)
		checkEncodePieces(t, n, []string{tooLongPiece}, "", 0, impl.ErrNone)
		checkEncodePieces(t, n, slices.Repeat([]string{""}, impl.MaxList), "", 0, impl.ErrNone)
	}
	for _, row := range profileTable {
		n, header := row.number, row.header
		for _, pieces := range [][]string{{letters + "A"}, {letters, "A"}, {"A", letters}, {"", letters, "", "A", ""}, {"\xff", letters}, {tooLongPiece}, {longestPiece, "A"},
			append(slices.Repeat([]string{"A"}, impl.MaxList-1), "AA"), slices.Repeat([]string{longestPiece}, impl.MaxList)} {
			checkEncodePieces(t, n, pieces, "", 0, impl.ErrSize)
		}
		checkEncodePieces(t, n, slices.Repeat([]string{""}, impl.MaxList), header, 0, impl.OK)
		if !row.reset {
			checkEncodePieces(t, n, []string{letters}, "", 60, impl.ErrMany)
			continue
		}
		checkEncodePieces(t, n, []string{letters}, header+letters, impl.MaxList, impl.OK)
		checkEncodePieces(t, n, []string{letters[:7], "", letters[7:]}, header+letters, impl.MaxList, impl.OK)
		checkEncodePieces(t, n, singleBytes(letters, false), header+letters, impl.MaxList, impl.OK)
		checkEncodePieces(t, n, []string{"\xff" + letters[1:]}, "", 0, impl.ErrUtf)
		checkEncodePieces(t, n, []string{letters[1:], "\xff"}, header+letters[1:], impl.MaxList-1, impl.ErrUtf)
		checkEncodePieces(t, n, []string{letters[1:], "\xe3"}, header+letters[1:], impl.MaxList-1, impl.ErrShort)
	}
}

// The longest piece, also behind waiting bytes: a character may begin beyond
// the offset MaxText.
func TestLongestPiecesOfText(t *testing.T) {
	text := strings.Repeat("a\n", impl.MaxText/2)
	start := impl.Encoder{Profile: impl.PrJp}
	done := impl.Encoder{Profile: impl.PrJp, Count: impl.MaxText, Begun: true}
	checkText(t, start, text, done, text, impl.OK)
	checkText(t, start, text+"a", impl.Encoder{}, "", impl.ErrLong)
	waits := impl.Encoder{Profile: impl.PrJp, Rest: "\xe3\x81"}
	again := impl.Encoder{Profile: impl.PrJp, Count: impl.MaxText - 2, Rest: "\xe3\x81", Begun: true}
	checkText(t, waits, "\x82"+text[1:impl.MaxText-2]+"\xe3\x81", again, "\x1b$B$\"\x1b(B"+text[1:impl.MaxText-2], impl.OK)
	letters := again
	letters.Count, letters.Rest, letters.Line = impl.MaxText, "", []int{97, 97}
	checkText(t, waits, "\x82"+text[1:impl.MaxText-2]+"aa", letters, "\x1b$B$\"\x1b(B"+text[1:impl.MaxText-2], impl.OK)
	checkStop(t, waits, "\x82"+text[1:impl.MaxText-2]+"a\xff", impl.MaxText-1, "\x1b$B$\"\x1b(B"+text[1:impl.MaxText-2], impl.ErrUtf)
}

func checkLines(t *testing.T, list []int, code int, want ...[]int) {
	t.Helper()
	whole := append(slices.Clone(list), 7, 8, 9)
	before := slices.Clone(whole)
	one, c := impl.LinesOf(whole[:len(list)])
	if !slices.EqualFunc(one, want, slices.Equal[[]int]) || c != code {
		t.Errorf("LinesOf(%v) = %v, %d, want %v, %d", list, one, c, want, code)
	}
	two, _ := impl.LinesOf(whole[:len(list)])
	// each line is its own memory, and the lines are not those of another call
	for i := range one {
		spoil(one[i])
		if !slices.EqualFunc(one[i+1:], want[i+1:], slices.Equal[[]int]) {
			t.Errorf("LinesOf(%v): line %d shares memory with another one", list, i)
		}
	}
	if !slices.Equal(whole, before) || !slices.EqualFunc(two, want, slices.Equal[[]int]) {
		t.Errorf("LinesOf(%v): the lines share memory with %v or %v", list, whole, two)
	}
	for i := range two {
		two[i] = append(two[i], -1, -1)
		two[i] = two[i][:len(two[i])-2]
	}
	if !slices.EqualFunc(two, want, slices.Equal[[]int]) {
		t.Errorf("LinesOf(%v): the unused capacity of a line is the next line", list)
	}
}

func TestLinesOf(t *testing.T) {
	checkLines(t, nil, impl.OK)
	checkLines(t, []int{}, impl.OK)
	checkLines(t, []int{10}, impl.OK, []int{10})
	checkLines(t, []int{65}, impl.OK, []int{65})
	checkLines(t, []int{65, 10}, impl.OK, []int{65, 10})
	checkLines(t, []int{10, 65}, impl.OK, []int{10}, []int{65})
	checkLines(t, []int{65, 10, 66}, impl.OK, []int{65, 10}, []int{66})
	checkLines(t, []int{65, 10, 66, 10}, impl.OK, []int{65, 10}, []int{66, 10})
	checkLines(t, []int{10, 10, 10}, impl.OK, []int{10}, []int{10}, []int{10})
	checkLines(t, []int{65, 10, 10, 10, 66, 67}, impl.OK, []int{65, 10}, []int{10}, []int{10}, []int{66, 67})
	// characters that no profile can encode, and no other line end
	checkLines(t, []int{0, 13, 27, 11, 12, 133, 8232, 10, impl.MaxRune, 128512}, impl.OK, []int{0, 13, 27, 11, 12, 133, 8232, 10}, []int{impl.MaxRune, 128512})
	// long lines and many lines
	long := slices.Repeat([]int{97}, impl.MaxList)
	checkLines(t, long, impl.OK, long)
	long[impl.MaxList-1] = 10
	checkLines(t, long, impl.OK, long)
	long[61] = 10
	checkLines(t, long, impl.OK, long[:62], long[62:])
	checkLines(t, slices.Repeat([]int{10}, impl.MaxList), impl.OK, slices.Repeat([][]int{{10}}, impl.MaxList)...)
}

// An element that is no character, wherever it stands, and too many elements.
func TestLinesOfWhatIsNoList(t *testing.T) {
	for _, bad := range notCharacters {
		for _, list := range [][]int{{bad}, {65, bad}, {bad, 65}, {65, 10, bad}, {bad, 10, 65}, {10, 10, bad, bad, 10}, append(slices.Repeat([]int{10}, impl.MaxList-1), bad)} {
			checkLines(t, list, impl.ErrRange)
		}
		checkLines(t, slices.Repeat([]int{bad}, impl.MaxList+1), impl.ErrLong)
	}
	checkLines(t, slices.Repeat([]int{10}, impl.MaxList+1), impl.ErrLong)
	checkLines(t, slices.Repeat([]int{65}, impl.MaxText+1), impl.ErrLong)
}

// What the caller makes of the line of an encoder has no effect on another one.
func TestEncodersShareNoLine(t *testing.T) {
	one := impl.Encoder{Profile: impl.PrJp, Count: 2, Line: append(make([]int, 0, 100), 65, 66)}
	two, _, _ := impl.WriteText(one, "C")
	three, _, _ := impl.WriteText(one, "D")
	four, _, _ := impl.WriteText(two, "E")
	one.Line[0] = 67
	five, _, _ := impl.WriteText(two, "")
	spoil(four.Line)
	full := two
	full.Count = maxCount
	six, _, code := impl.WriteText(full, "A")
	if code != impl.ErrFull {
		t.Error("WriteText:", code)
	}
	spoil(six.Line)
	for i, v := range []struct {
		e    impl.Encoder
		want []int
	}{{two, []int{65, 66, 67}}, {three, []int{65, 66, 68}}, {five, []int{65, 66, 67}}} {
		if !slices.Equal(v.e.Line, v.want) {
			t.Errorf("encoder %d: %+v, want the line %v", i, v.e, v.want)
		}
	}
	if _, out, _ := impl.CloseEncoder(two); out != "ABC" {
		t.Errorf("CloseEncoder(%+v) = %q", two, out)
	}
}

// The waiting bytes are no part of the piece, which they would keep.
func TestWaitingBytesOfTextAreNewMemory(t *testing.T) {
	for _, piece := range []string{"\xe3", "\xe3\x81", "A\nB\xe3\x81"} {
		next, _, _ := impl.WriteText(impl.Encoder{Profile: impl.PrJp}, piece)
		if next.Rest == "" || isPartOf(piece, next.Rest) {
			t.Errorf("WriteText of %q keeps a part of it, or nothing: %q", piece, next.Rest)
		}
	}
}
