package tests

import (
	"slices"
	"strings"
	"testing"

	"loop.example/g00748/impl"
)

// maxWritten is the most that Count and the length of a piece come to together.
const maxWritten = 999999996

// equalEncoders compares all fields, of valid encoders and of others.
func equalEncoders(a, b impl.Encoder) bool {
	return a.Profile == b.Profile && a.Count == b.Count && a.Code == b.Code && a.Rest == b.Rest && slices.Equal(a.Line, b.Line) && a.Begun == b.Begun && a.Over == b.Over
}

func isNoEncoder(e impl.Encoder) bool {
	return equalEncoders(e, impl.Encoder{})
}

// endedEncoder is an encoder that is over with a code.
func endedEncoder(e impl.Encoder, code int) impl.Encoder {
	e.Rest, e.Line, e.Code, e.Over = "", nil, code, true
	return e
}

// writtenEncoder is an encoder behind writing the line.
func writtenEncoder(e impl.Encoder) impl.Encoder {
	e.Line, e.Begun = nil, true
	return e
}

// waitingEncoder is an encoder with characters in its line.
func waitingEncoder(e impl.Encoder, line ...int) impl.Encoder {
	e.Line = line
	return e
}

// checkEncoder checks the encoder that a call returns: its fields, and what
// EncoderOK and SameEncoder say of it. There is none beside some codes.
func checkEncoder(t *testing.T, what string, got, want impl.Encoder) {
	t.Helper()
	if !equalEncoders(got, want) {
		t.Errorf("%s: the encoder is %+v, want %+v", what, got, want)
	}
	valid := !isNoEncoder(want)
	if impl.EncoderOK(got) != valid || impl.SameEncoder(got, want) != valid || impl.SameEncoder(want, got) != valid {
		t.Errorf("%s: EncoderOK and SameEncoder of %+v, which is valid: %v", what, got, valid)
	}
}

// twice makes a call two times. Neither the line of the encoder nor its unused
// capacity may change, and what the caller makes of the first result must not
// change the second one.
func twice(t *testing.T, what string, e impl.Encoder, call func(e impl.Encoder) impl.Encoder) {
	t.Helper()
	whole := append(slices.Clone(e.Line), 7, 8, 9)
	before := slices.Clone(whole)
	e.Line = whole[:len(e.Line)]
	spoil(call(e).Line)
	if !slices.Equal(whole, before) {
		t.Errorf("%s: the line of the encoder is %v, and was %v", what, whole, before)
	}
	call(e)
}

// checkText checks all results of WriteText, and returns the encoder wanted.
func checkText(t *testing.T, e impl.Encoder, piece string, want impl.Encoder, output string, code int) impl.Encoder {
	t.Helper()
	twice(t, "WriteText", e, func(e impl.Encoder) impl.Encoder {
		t.Helper()
		got, out, c := impl.WriteText(e, piece)
		if out != output || c != code {
			t.Errorf("WriteText(%+v, %.60q) = %+v, %.200q, %d, want %.200q, %d", e, piece, got, out, c, output, code)
		}
		checkEncoder(t, "WriteText", got, want)
		return got
	})
	return want
}

// checkClose checks all results of CloseEncoder, and returns the encoder wanted.
func checkClose(t *testing.T, e, want impl.Encoder, output string, code int) impl.Encoder {
	t.Helper()
	twice(t, "CloseEncoder", e, func(e impl.Encoder) impl.Encoder {
		t.Helper()
		got, out, c := impl.CloseEncoder(e)
		if out != output || c != code {
			t.Errorf("CloseEncoder(%+v) = %+v, %.200q, %d, want %.200q, %d", e, got, out, c, output, code)
		}
		checkEncoder(t, "CloseEncoder", got, want)
		return got
	})
	return want
}

// checkStays checks that an encoder that is over stays as it is, however often
// it is written to and closed.
func checkStays(t *testing.T, e impl.Encoder) {
	t.Helper()
	code := e.Code
	if code == impl.OK {
		code = impl.ErrState
	}
	for range 3 {
		for _, piece := range []string{"", "A", "\n", "\xe3", "\xff", "\x1b", longestPiece} {
			checkText(t, e, piece, e, "", code)
		}
		checkClose(t, e, e, "", code)
	}
}

// checkFinished checks the end of the input without a code, and that the encoder
// is over then.
func checkFinished(t *testing.T, e impl.Encoder, output string) {
	t.Helper()
	checkStays(t, checkClose(t, e, endedEncoder(writtenEncoder(e), impl.OK), output, impl.OK))
}

// checkCutOff checks the end of the input where bytes wait: no line is written.
func checkCutOff(t *testing.T, e impl.Encoder) {
	t.Helper()
	checkStays(t, checkClose(t, e, endedEncoder(e, impl.ErrShort), "", impl.ErrShort))
}

// checkStop checks a piece with a code, and that the encoder is over then: it
// has accepted some characters and written some output, a line if any.
func checkStop(t *testing.T, e impl.Encoder, piece string, accepted int, output string, code int) {
	t.Helper()
	want := endedEncoder(e, code)
	want.Count += accepted
	want.Begun = e.Begun || output != ""
	checkStays(t, checkText(t, e, piece, want, output, code))
}

func checkEncodePieces(t *testing.T, n int, pieces []string, output string, count, code int) {
	t.Helper()
	before := slices.Clone(pieces)
	for range 2 {
		out, accepted, c := impl.EncodePieces(n, pieces)
		if out != output || accepted != count || c != code {
			t.Errorf("EncodePieces(%d, %.200q) = %.200q, %d, %d, want %.200q, %d, %d", n, pieces, out, accepted, c, output, count, code)
		}
	}
	if !slices.Equal(pieces, before) {
		t.Errorf("EncodePieces(%d, %.200q) changed the pieces to %.200q", n, before, pieces)
	}
}

func TestNewEncoders(t *testing.T) {
	for _, row := range profileTable {
		e, code := impl.NewEncoder(row.number)
		if code != impl.OK {
			t.Errorf("NewEncoder(%d) = %+v, %d", row.number, e, code)
		}
		checkEncoder(t, "NewEncoder", e, impl.Encoder{Profile: row.number})
	}
	for _, n := range noProfiles {
		e, code := impl.NewEncoder(n)
		if code != impl.ErrNone {
			t.Errorf("NewEncoder(%d) = %+v, %d", n, e, code)
		}
		checkEncoder(t, "NewEncoder", e, impl.Encoder{})
		for _, pieces := range [][]string{nil, {""}, {"A"}, {"A\n", "\xff"}, {"\x1b"}} {
			checkEncodePieces(t, n, pieces, "", 0, impl.ErrNone)
		}
	}
}

// The fields behind every piece of some lines of jp.
func TestEncodingSomeLinesInPieces(t *testing.T) {
	e := impl.Encoder{Profile: impl.PrJp}
	write := func(piece string, count int, rest, output string, line ...int) {
		t.Helper()
		want := impl.Encoder{Profile: impl.PrJp, Count: count, Rest: rest, Line: line, Begun: e.Begun || output != ""}
		e = checkText(t, e, piece, want, output, impl.OK)
	}
	write("A", 1, "", "", 65)
	write("B \xe3", 3, "\xe3", "", 65, 66, 32)
	write("", 3, "\xe3", "", 65, 66, 32)
	write("\x81", 3, "\xe3\x81", "", 65, 66, 32)
	write("\x82\xc2", 4, "\xc2", "", 65, 66, 32, 12354)
	write("\xa5", 5, "", "", 65, 66, 32, 12354, 165)
	write("\n", 6, "", "AB\x1b$B $\"\x1b(J\\\x1b(B\n")
	write("", 6, "", "")
	write("\n\nC", 9, "", "\n\n", 67)
	write("\r\n\xe4\xb8\x80\nD\xe4\xb8", 14, "\xe4\xb8", "C\r\n\x1b$B0!\x1b(B\n", 68)
	checkCutOff(t, e)
	write("\x80", 15, "", "", 68, 19968)
	checkFinished(t, e, "D\x1b$B0!\x1b(B")
}

// The Header comes once, ahead of all other bytes, with the first line that is
// written, whatever that line is.
func TestTheHeaderOfLines(t *testing.T) {
	for _, row := range profileTable {
		n, header := row.number, row.header
		start := impl.Encoder{Profile: n}
		// no text at all, and pieces without bytes
		checkFinished(t, start, header)
		checkText(t, start, "", start, "", impl.OK)
		for _, pieces := range [][]string{nil, {}, {""}, {"", "", ""}} {
			checkEncodePieces(t, n, pieces, header, 0, impl.OK)
		}
		// characters without a line end, behind an empty piece
		one := impl.Encoder{Profile: n, Count: 1, Line: []int{65}}
		checkText(t, start, "A", one, "", impl.OK)
		checkFinished(t, one, header+"A")
		for _, pieces := range [][]string{{"A"}, {"", "A"}, {"A", ""}, {"", "A", "", ""}} {
			checkEncodePieces(t, n, pieces, header+"A", 1, impl.OK)
		}
		// lines, the first one empty or not
		for _, text := range []string{"\n", "A\n", "\n\n", "\nA", "A\nB", "A\nB\n", "\n\n\nA\n\n", "AB\n\nCD\n"} {
			checkEncodePieces(t, n, []string{text}, header+text, len(text), impl.OK)
			checkEncodePieces(t, n, []string{"", text}, header+text, len(text), impl.OK)
			checkEncodePieces(t, n, singleBytes(text, false), header+text, len(text), impl.OK)
		}
		// a fault, or bytes that wait, in the first line
		checkStop(t, start, "A\xff", 1, "", impl.ErrUtf)
		checkStop(t, start, "\x1b", 0, "", impl.ErrUnmapped)
		checkCutOff(t, impl.Encoder{Profile: n, Rest: "\xe3"})
		checkEncodePieces(t, n, []string{"A\xff"}, "", 1, impl.ErrUtf)
		checkEncodePieces(t, n, []string{"A\xc3"}, "", 1, impl.ErrShort)
		// nothing but Begun decides
		begun := impl.Encoder{Profile: n, Begun: true}
		checkText(t, begun, "", begun, "", impl.OK)
		checkFinished(t, begun, "")
		begun.Count, begun.Line = 1, []int{65}
		checkFinished(t, begun, "A")
		checkFinished(t, impl.Encoder{Profile: n, Count: 1000}, header)
		checkFinished(t, impl.Encoder{Profile: n, Count: 1000, Line: []int{65}}, header+"A")
	}
}

// The encoder and the output of every line of kr, which has a Header.
func TestLinesBehindTheHeader(t *testing.T) {
	const n, header = impl.PrKr, "\x1b$)C"
	start := impl.Encoder{Profile: n}
	first := checkText(t, start, "\n", impl.Encoder{Profile: n, Count: 1, Begun: true}, header+"\n", impl.OK)
	checkFinished(t, first, "")
	second := checkText(t, first, "\n", impl.Encoder{Profile: n, Count: 2, Begun: true}, "\n", impl.OK)
	checkFinished(t, second, "")
	both := checkText(t, start, "\n\n", second, header+"\n\n", impl.OK)
	third := checkText(t, both, "\xea\xb0\x80\nA", impl.Encoder{Profile: n, Count: 5, Line: []int{65}, Begun: true}, "\x0e0!\x0f\n", impl.OK)
	checkFinished(t, third, "A")
	checkText(t, third, "\xea\xb0\x81\n", impl.Encoder{Profile: n, Count: 7, Begun: true}, "A\x0e0\"\x0f\n", impl.OK)
	checkStop(t, third, "\n\xea\xb0\x81\nB\xff", 4, "A\n\x0e0\"\x0f\n", impl.ErrUtf)
	checkStop(t, start, "\nA\x1b", 2, header+"\n", impl.ErrUnmapped)
	hangul := impl.Encoder{Profile: n, Count: 1, Line: []int{44032}}
	checkFinished(t, hangul, header+"\x0e0!\x0f")
	hangul.Begun = true
	checkFinished(t, hangul, "\x0e0!\x0f")
	// a line that looks like the Header is no Header
	checkEncodePieces(t, n, []string{"$)C\n$)C"}, header+"$)C\n$)C", 7, impl.OK)
	checkEncodePieces(t, n, []string{header}, "", 0, impl.ErrUnmapped)
}

// With Reset, 10 writes the line; without, it waits like any other character.
func TestLineEndsOfEncoders(t *testing.T) {
	for _, row := range profileTable {
		n := row.number
		start := impl.Encoder{Profile: n}
		if row.reset {
			checkText(t, start, "A\nB", impl.Encoder{Profile: n, Count: 3, Line: []int{66}, Begun: true}, row.header+"A\n", impl.OK)
			checkText(t, start, "\n\n\n", impl.Encoder{Profile: n, Count: 3, Begun: true}, row.header+"\n\n\n", impl.OK)
		} else {
			checkText(t, start, "A\nB", impl.Encoder{Profile: n, Count: 3, Line: []int{65, 10, 66}}, "", impl.OK)
			checkText(t, start, "\n\n\n", impl.Encoder{Profile: n, Count: 3, Line: []int{10, 10, 10}}, "", impl.OK)
		}
		// no other control character ends a line
		all := impl.Encoder{Profile: n}
		text := ""
		for r := range 33 {
			if r != 10 && r != 14 && r != 15 && r != 27 {
				all.Line = append(all.Line, r)
				text += string(rune(r))
			}
		}
		all.Count = len(text)
		checkText(t, start, text, all, "", impl.OK)
		checkFinished(t, all, row.header+text)
	}
	// the lines of ct are encoded together
	checkEncodePieces(t, impl.PrCt, []string{"\xe3\x81\x82", "\n", "\xe3\x81\x82"}, "\x1b$A$\"\n$\"", 3, impl.OK)
	checkEncodePieces(t, impl.PrJp2, []string{"\xe3\x81\x82", "\n", "\xe3\x81\x82"}, "\x1b$A$\"\x1b(B\n\x1b$A$\"\x1b(B", 3, impl.OK)
	checkEncodePieces(t, impl.PrJp2, []string{"\xc3\xa9\n", "\xc3\xa9"}, "\x1b.A\x1bNi\n\x1b.A\x1bNi", 3, impl.OK)
	checkEncodePieces(t, impl.PrCn, []string{"\xea\xb0\x80\n\xea", "\xb0\x80"}, "\x0e\x1b$)C0!\x0f\n\x0e\x1b$)C0!\x0f", 3, impl.OK)
}

// Sequences of two, three and four bytes, split behind each of their bytes.
func TestSplitCharacters(t *testing.T) {
	check := func(n int, char string, r int, output string) {
		t.Helper()
		before := impl.Encoder{Profile: n, Count: 9, Line: []int{65}, Begun: true}
		behind := impl.Encoder{Profile: n, Count: 10, Line: []int{65, r}, Begun: true}
		checkText(t, before, char, behind, "", impl.OK)
		checkFinished(t, behind, output)
		for cut := 1; cut < len(char); cut++ {
			waits := before
			waits.Rest = char[:cut]
			checkText(t, before, char[:cut], waits, "", impl.OK)
			checkText(t, waits, "", waits, "", impl.OK)
			checkCutOff(t, waits)
			checkText(t, waits, char[cut:], behind, "", impl.OK)
			again := behind
			again.Rest = char[:cut]
			checkText(t, waits, char[cut:]+char[:cut], again, "", impl.OK)
			// any other byte
			for b := range 256 {
				if b < 128 || b > 191 {
					checkText(t, waits, string([]byte{byte(b)})+char[cut:], endedEncoder(before, impl.ErrUtf), "", impl.ErrUtf)
				}
			}
			checkStop(t, waits, "A", 0, "", impl.ErrUtf)
			checkStop(t, waits, "\n", 0, "", impl.ErrUtf)
			checkStop(t, waits, char, 0, "", impl.ErrUtf)
		}
	}
	check(impl.PrJp, "\xc2\xa5", 165, "\x1b(JA\\\x1b(B")
	check(impl.PrJp2, "\xc3\xa9", 233, "\x1b.AA\x1bNi")
	check(impl.PrCt, "\xc3\xa9", 233, "A\xe9")
	check(impl.PrCt, "\xce\x91", 913, "\x1b-FA\xc1")
	check(impl.PrJp, "\xe3\x81\x82", 12354, "A\x1b$B$\"\x1b(B")
	check(impl.PrKr, "\xea\xb0\x80", 44032, "A\x0e0!\x0f")
	check(impl.PrCn, "\xef\xbd\xa1", 65377, "\x1b*IA\x1bN!")
	// no set has a character of four bytes
	for _, row := range profileTable {
		for _, char := range []string{"\xf0\x90\x80\x80", "\xf0\x9f\x98\x80", "\xf4\x8f\xbf\xbf"} {
			before := impl.Encoder{Profile: row.number, Count: 9, Line: []int{65}}
			checkStop(t, before, char, 0, "", impl.ErrUnmapped)
			for cut := 1; cut < len(char); cut++ {
				waits := before
				waits.Rest = char[:cut]
				checkText(t, before, char[:cut], waits, "", impl.OK)
				checkCutOff(t, waits)
				checkStop(t, waits, char[cut:], 0, "", impl.ErrUnmapped)
				checkStop(t, waits, char[cut:]+"A\n", 0, "", impl.ErrUnmapped)
				checkStop(t, waits, "A", 0, "", impl.ErrUtf)
			}
			checkEncodePieces(t, row.number, singleBytes("A"+char, true), "", 1, impl.ErrUnmapped)
		}
	}
}

// A line has at most MaxChars characters, also with its line end.
func TestLinesOfMaxChars(t *testing.T) {
	full := strings.Repeat("a", impl.MaxChars)
	line := slices.Repeat([]int{97}, impl.MaxChars)
	for _, row := range profileTable {
		n := row.number
		start := impl.Encoder{Profile: n}
		waits := impl.Encoder{Profile: n, Count: 60, Line: line}
		checkText(t, start, full, waits, "", impl.OK)
		checkFinished(t, waits, row.header+full)
		for _, piece := range []string{"a", "\n", " ", "aa", "\na", "a\xff", "a\x1b", "a\xe3"} {
			checkStop(t, waits, piece, 0, "", impl.ErrMany)
			checkStop(t, start, full+piece, 60, "", impl.ErrMany)
			checkEncodePieces(t, n, []string{full, piece}, "", 60, impl.ErrMany)
		}
		// ErrUtf and ErrUnmapped come before ErrMany, and what waits is no character
		checkStop(t, waits, "\xff", 0, "", impl.ErrUtf)
		checkStop(t, waits, "\x1b", 0, "", impl.ErrUnmapped)
		checkStop(t, waits, "\xf0\x9f\x98\x80", 0, "", impl.ErrUnmapped)
		rest := waits
		rest.Rest = "\xe3\x81"
		checkText(t, waits, "\xe3\x81", rest, "", impl.OK)
		checkCutOff(t, rest)
		checkStop(t, rest, "a", 0, "", impl.ErrUtf)
		checkEncodePieces(t, n, []string{full, "\xe3"}, "", 60, impl.ErrShort)
	}
	// 12354 belongs to all of these
	for _, n := range []int{impl.PrJp, impl.PrJp2, impl.PrKr, impl.PrCn, impl.PrCt} {
		waits := impl.Encoder{Profile: n, Count: 60, Line: line, Rest: "\xe3\x81"}
		checkStop(t, waits, "\x82", 0, "", impl.ErrMany)
	}
	checkManyLinesOfMaxChars(t)
}

func checkManyLinesOfMaxChars(t *testing.T) {
	t.Helper()
	full := strings.Repeat("a", impl.MaxChars)
	for _, row := range profileTable {
		n, header := row.number, row.header
		if !row.reset {
			// the line ends are among the characters of one line
			text := strings.Repeat("\n", 59)
			checkEncodePieces(t, n, []string{text + "a"}, text+"a", 60, impl.OK)
			checkEncodePieces(t, n, []string{text + "\n"}, text+"\n", 60, impl.OK)
			checkEncodePieces(t, n, []string{text + "\n\n"}, "", 60, impl.ErrMany)
			checkEncodePieces(t, n, []string{text + "a", "a"}, "", 60, impl.ErrMany)
			continue
		}
		longest := full[:59] + "\n"
		checkEncodePieces(t, n, []string{longest}, header+longest, 60, impl.OK)
		checkEncodePieces(t, n, []string{longest + longest, longest, full}, header+longest+longest+longest+full, 240, impl.OK)
		checkEncodePieces(t, n, []string{longest + "\n" + longest}, header+longest+"\n"+longest, 121, impl.OK)
		checkEncodePieces(t, n, []string{full + "\n"}, "", 60, impl.ErrMany)
		checkEncodePieces(t, n, []string{"b\n" + full + "\n"}, header+"b\n", 62, impl.ErrMany)
		checkEncodePieces(t, n, []string{longest, full, "a"}, header+longest, 120, impl.ErrMany)
		checkEncodePieces(t, n, []string{strings.Repeat("\n", 1000)}, header+strings.Repeat("\n", 1000), 1000, impl.OK)
		start := impl.Encoder{Profile: n}
		checkText(t, start, longest, impl.Encoder{Profile: n, Count: 60, Begun: true}, header+longest, impl.OK)
		checkStop(t, start, "b\n"+full+"\n", 62, header+"b\n", impl.ErrMany)
	}
}

// CloseEncoder with characters that wait, with bytes, with both, and with none.
func TestClosingEncoders(t *testing.T) {
	for _, row := range profileTable {
		for _, begun := range []bool{false, true} {
			e := impl.Encoder{Profile: row.number, Count: 7, Begun: begun}
			header := row.header
			if begun {
				header = ""
			}
			checkFinished(t, e, header)
			checkFinished(t, waitingEncoder(e, 65, 0, 66), header+"A\x00B")
			for _, rest := range []string{"\xc3", "\xe3\x81", "\xf0\x9f\x98", "\xc0", "\xed\xa0", "\xf7\xbf\xbf"} {
				e.Rest = rest
				checkCutOff(t, e)
				checkCutOff(t, waitingEncoder(e, 65, 66))
			}
		}
	}
	checkFinished(t, impl.Encoder{Profile: impl.PrJp2, Count: 3, Line: []int{233, 12354, 65}, Begun: true}, "\x1b$A\x1b.A\x1bNi$\"\x1b(BA")
	checkFinished(t, impl.Encoder{Profile: impl.PrCt, Count: 3, Line: []int{233, 10, 12354}}, "\x1b$A\xe9\n$\"")
}

// Each kind of invalid UTF-8 at the start, inside and at the end of a piece,
// and split at each place: what comes before it is done.
func TestInvalidUtfInPieces(t *testing.T) {
	for _, bad := range []string{"\x80", "\xbf", "\xf8", "\xff", "\xc2a", "\xc2\xc2", "\xc0\x80", "\xc1\xbf", "\xe3a", "\xe3\x81a", "\xe3\x81\xe3", "\xe0\x80\x80", "\xe0\x9f\xbf",
		"\xed\xa0\x80", "\xed\xbf\xbf", "\xf0a", "\xf0\x9fa", "\xf0\x9f\x98a", "\xf0\x80\x80\x80", "\xf0\x8f\xbf\xbf", "\xf4\x90\x80\x80", "\xf7\xbf\xbf\xbf"} {
		for _, row := range profileTable {
			n := row.number
			start := impl.Encoder{Profile: n, Count: 5, Begun: true}
			written := "A\n"
			if !row.reset {
				written = ""
			}
			for _, behind := range []string{"", "B", "B\n", "\xff", "\xe3\x81\x82\n"} {
				checkStop(t, start, bad+behind, 0, "", impl.ErrUtf)
				checkStop(t, start, "AB"+bad+behind, 2, "", impl.ErrUtf)
				checkStop(t, start, "A\nB"+bad+behind, 3, written, impl.ErrUtf)
			}
			for cut := 1; cut < len(bad); cut++ {
				waits := waitingEncoder(start, 65)
				waits.Rest = bad[:cut]
				checkText(t, waitingEncoder(start, 65), bad[:cut], waits, "", impl.OK)
				checkStop(t, waits, bad[cut:]+"B", 0, "", impl.ErrUtf)
				checkEncodePieces(t, n, []string{"A", bad[:cut], "", bad[cut:], "B"}, "", 1, impl.ErrUtf)
				if row.reset {
					checkEncodePieces(t, n, []string{"A\n", bad[:cut], "", bad[cut:], "B"}, row.header+"A\n", 2, impl.ErrUtf)
				}
			}
		}
	}
}

// Characters that the profile cannot encode, and nothing behind them is done.
func TestCharactersInPiecesThatCannotBeEncoded(t *testing.T) {
	stops := func(n int, chars ...string) {
		t.Helper()
		for _, char := range chars {
			e := impl.Encoder{Profile: n, Count: 4, Line: []int{65}, Begun: true}
			for _, behind := range []string{"", "B", "\n", "\xff", "\xe3"} {
				checkStop(t, e, char+behind, 0, "", impl.ErrUnmapped)
				checkStop(t, e, "B"+char+behind, 1, "", impl.ErrUnmapped)
			}
			checkEncodePieces(t, n, []string{"A", char, "B"}, "", 1, impl.ErrUnmapped)
			checkEncodePieces(t, n, singleBytes("AB"+char+"B\n", false), "", 2, impl.ErrUnmapped)
		}
	}
	for _, row := range profileTable {
		stops(row.number, "\x0e", "\x0f", "\x1b", "\xc2\x80", "\xc2\x9f", "\xc4\x80", "\xef\xbf\xbd", "\xef\xbf\xbf", "\xf0\x90\x80\x80")
	}
	stops(impl.PrJp, "\xc3\xa9", "\xea\xb0\x80", "\xef\xbd\xa1", "\xcc\x81")
	stops(impl.PrJp2, "\xc3\xbf", "\xef\xbd\xa1")
	stops(impl.PrKr, "\xe4\xb8\x80", "\xc3\xa9")
	stops(impl.PrCn, "\xc2\xa5", "\xc3\xa9")
	// the first of several, and the lines before it are written
	checkEncodePieces(t, impl.PrJp, []string{"A\nB\nC\xc3", "\xa9\xff"}, "A\nB\n", 5, impl.ErrUnmapped)
	checkEncodePieces(t, impl.PrJp, []string{"A\nB\nC\xff\xc3\xa9"}, "A\nB\n", 5, impl.ErrUtf)
	checkEncodePieces(t, impl.PrJp2, []string{"A\nB\nC\xc3", "\xa9\xff"}, "A\nB\n", 6, impl.ErrUtf)
	checkEncodePieces(t, impl.PrKr, []string{"A\n\x1b", "A\n"}, "\x1b$)CA\n", 2, impl.ErrUnmapped)
	checkEncodePieces(t, impl.PrCt, []string{"A\n\x1b", "A\n"}, "", 2, impl.ErrUnmapped)
}
