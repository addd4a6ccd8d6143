package tests

import (
	"slices"
	"testing"

	"loop.example/g00748/impl"
)

// newDecoder is a new decoder by document.
func (row profileRow) newDecoder() impl.Decoder {
	return impl.Decoder{Profile: row.number, State: row.start}
}

// newDecoders lists one for each profile.
func newDecoders() []impl.Decoder {
	var list []impl.Decoder
	for _, row := range profileTable {
		list = append(list, row.newDecoder())
	}
	return list
}

// checkWrite checks all results of WritePiece, and returns the decoder wanted.
func checkWrite(t *testing.T, d impl.Decoder, piece string, want impl.Decoder, code int, chars ...int) impl.Decoder {
	t.Helper()
	got, list, c := impl.WritePiece(d, piece)
	if got != want || c != code || !slices.Equal(list, chars) {
		t.Errorf("WritePiece(%+v, %.60q) = %+v, %v, %d, want %+v, %v, %d", d, piece, got, list, c, want, chars, code)
	}
	if valid := want != (impl.Decoder{}); impl.DecoderOK(got) != valid {
		t.Errorf("DecoderOK(%+v) = %v", got, !valid)
	}
	return want
}

// checkEnd checks all results of CloseDecoder, and returns the decoder wanted.
func checkEnd(t *testing.T, d, want impl.Decoder, code int) impl.Decoder {
	t.Helper()
	got, c := impl.CloseDecoder(d)
	if got != want || c != code {
		t.Errorf("CloseDecoder(%+v) = %+v, %d, want %+v, %d", d, got, c, want, code)
	}
	if valid := want != (impl.Decoder{}); impl.DecoderOK(got) != valid {
		t.Errorf("DecoderOK(%+v) = %v", got, !valid)
	}
	return want
}

// checkOver checks that a decoder stays as it is, however often it is written
// to and closed.
func checkOver(t *testing.T, d impl.Decoder, code int) {
	t.Helper()
	for range 3 {
		for _, piece := range []string{"", "A", "\x1b", "\x1b$)C", "\x80", "\n", longestPiece} {
			checkWrite(t, d, piece, d, code)
		}
		checkEnd(t, d, d, code)
	}
}

// ended is a decoder that is over with a code.
func ended(d impl.Decoder, code int) impl.Decoder {
	d.Rest, d.Code, d.Over = "", code, true
	return d
}

// checkClosed checks the end of the input of a decoder, and that it is over then.
func checkClosed(t *testing.T, d impl.Decoder, code int) {
	t.Helper()
	closed := checkEnd(t, d, ended(d, code), code)
	if code == impl.OK {
		code = impl.ErrState
	}
	checkOver(t, closed, code)
}

// checkFault checks a piece with a code, and that the decoder is over then: it
// has moved by some bytes, to a state, with the characters before the fault.
func checkFault(t *testing.T, d impl.Decoder, piece string, at int, s impl.State, code int, chars ...int) {
	t.Helper()
	d.Begun = true
	want := d
	want.At, want.State = at, s
	checkOver(t, checkWrite(t, d, piece, ended(want, code), code, chars...), code)
}

func checkPieces(t *testing.T, n int, pieces []string, at, code int, chars ...int) {
	t.Helper()
	list, offset, c := impl.DecodePieces(n, pieces)
	if offset != at || c != code || !slices.Equal(list, chars) {
		t.Errorf("DecodePieces(%d, %.200q) = %v, %d, %d, want %v, %d, %d", n, pieces, list, offset, c, chars, at, code)
	}
}

func TestNewDecoders(t *testing.T) {
	for _, row := range profileTable {
		d, code := impl.NewDecoder(row.number)
		if d != row.newDecoder() || code != impl.OK || !impl.DecoderOK(d) {
			t.Errorf("NewDecoder(%d) = %+v, %d", row.number, d, code)
		}
	}
	for _, n := range noProfiles {
		if d, code := impl.NewDecoder(n); d != (impl.Decoder{}) || code != impl.ErrNone {
			t.Errorf("NewDecoder(%d) = %+v, %d", n, d, code)
		}
		checkPieces(t, n, nil, 0, impl.ErrNone)
		checkPieces(t, n, []string{"A"}, 0, impl.ErrNone)
		checkPieces(t, n, []string{"\x1b$)C", "A", "\x80"}, 0, impl.ErrNone)
	}
}

// The fields behind every piece of two lines.
func TestPiecesOfLines(t *testing.T) {
	d := impl.Decoder{Profile: impl.PrJp, State: impl.State{G0: 1}}
	write := func(piece string, at int, s impl.State, rest string, chars ...int) {
		t.Helper()
		want := impl.Decoder{Profile: impl.PrJp, At: at, State: s, Rest: rest, Begun: true}
		d = checkWrite(t, d, piece, want, impl.OK, chars...)
	}
	write("A", 1, impl.State{G0: 1}, "", 65)
	write("B \x1b$B$", 7, impl.State{G0: 6, Lead: 36}, "", 66, 32)
	write("\"$", 9, impl.State{G0: 6, Lead: 36}, "", 12354)
	write("", 9, impl.State{G0: 6, Lead: 36}, "")
	write("$\x1b", 10, impl.State{G0: 6}, "\x1b", 12356)
	write("", 10, impl.State{G0: 6}, "\x1b")
	write("(", 10, impl.State{G0: 6}, "\x1b(")
	write("J\\\x1b(", 14, impl.State{G0: 2}, "\x1b(", 165)
	write("B\\\n\n", 20, impl.State{G0: 1}, "", 92, 10, 10)
	write("\x1b$B0!\x1b(B\n", 29, impl.State{G0: 1}, "", 19968, 10)
	checkClosed(t, d, impl.OK)
}

func TestEmptyPieces(t *testing.T) {
	// also as the first piece, and before the Header
	for _, d := range newDecoders() {
		for range 3 {
			checkWrite(t, d, "", d, impl.OK)
		}
		d.Begun = true
		checkWrite(t, d, "", d, impl.OK)
	}
	for _, rest := range []string{"\x1b", "\x1b$", "\x1b$)"} {
		d := impl.Decoder{Profile: impl.PrKr, State: impl.State{G0: 1}, Rest: rest}
		checkWrite(t, d, "", d, impl.OK)
	}
	for _, s := range smallStates() {
		for _, rest := range []string{"", "\x1b", "\x1b$", "\x1b$)", "\x1b$(("} {
			d := impl.Decoder{Profile: impl.PrCn, At: 7, State: s, Rest: rest, Begun: true}
			checkWrite(t, d, "", d, impl.OK)
		}
	}
	checkPieces(t, impl.PrJp, nil, 0, impl.OK)
	checkPieces(t, impl.PrJp, []string{}, 0, impl.OK)
	checkPieces(t, impl.PrJp, []string{"", "", ""}, 0, impl.OK)
	checkPieces(t, impl.PrKr, nil, 0, impl.ErrHeader)
	checkPieces(t, impl.PrKr, []string{"", "", ""}, 0, impl.ErrHeader)
	checkPieces(t, impl.PrKr, []string{"", "\x1b", "", "$)C", "", "A", ""}, 5, impl.OK, 65)
	checkPieces(t, impl.PrJp, []string{"", "\x1b", "", "$", "", "B", "", "$", "", "\"", "\x1b(B", ""}, 8, impl.OK, 12354)
}

// Escape sequences of every kind that a profile allows, before a character,
// split behind each of their bytes.
func TestSplitEscapeSequences(t *testing.T) {
	check := func(n int, before, escape string, s impl.State, behind string, next impl.State, r int) {
		t.Helper()
		d, _ := impl.NewDecoder(n)
		d, _, code := impl.WritePiece(d, before)
		if code != impl.OK {
			t.Errorf("WritePiece(%d, %q): %d", n, before, code)
		}
		for cut := 1; cut < len(escape); cut++ {
			waits := d
			waits.Rest = escape[:cut]
			checkWrite(t, d, escape[:cut], waits, impl.OK)
			done := d
			done.At, done.State = d.At+len(escape), s
			checkWrite(t, waits, escape[cut:], done, impl.OK)
			done.At, done.State = done.At+len(behind), next
			checkWrite(t, waits, escape[cut:]+behind, done, impl.OK, r)
			checkClosed(t, waits, impl.ErrShort)
		}
	}
	check(impl.PrJp, "A", "\x1b(J", impl.State{G0: 2}, "\\", impl.State{G0: 2}, 165)
	check(impl.PrJp, "A", "\x1b$B", impl.State{G0: 6}, "$\"", impl.State{G0: 6}, 12354)
	check(impl.PrJp, "A", "\x1b$(B", impl.State{G0: 6}, "$\"", impl.State{G0: 6}, 12354)
	check(impl.PrJp, "\x1b$B", "\x1b(B", impl.State{G0: 1}, "$", impl.State{G0: 1}, 36)
	check(impl.PrJp2, "A", "\x1b$A", impl.State{G0: 8}, "0!", impl.State{G0: 8}, 19998)
	check(impl.PrJp2, "A", "\x1b$(C", impl.State{G0: 7}, "0!", impl.State{G0: 7}, 44032)
	check(impl.PrJp2, "A", "\x1b.F", impl.State{G0: 1, G2: 5}, "B", impl.State{G0: 1, G2: 5}, 66)
	check(impl.PrJp2, "\x1b.F", "\x1bN", impl.State{G0: 1, G2: 5, Single: 2}, "A", impl.State{G0: 1, G2: 5}, 913)
	check(impl.PrJp2, "\x1b.A", "\x1bN", impl.State{G0: 1, G2: 4, Single: 2}, " ", impl.State{G0: 1, G2: 4}, 160)
	check(impl.PrKr, "\x1b$)CA", "\x1b$)C", impl.State{G0: 1, G1: 7}, "B", impl.State{G0: 1, G1: 7}, 66)
	check(impl.PrKr, "\x1b$)C\x0e", "\x1b(B", impl.State{G0: 1, G1: 7, Left: 1}, "0!", impl.State{G0: 1, G1: 7, Left: 1}, 44032)
	check(impl.PrCn, "\x0e", "\x1b$)A", impl.State{G0: 1, G1: 8, Left: 1}, "0!", impl.State{G0: 1, G1: 8, Left: 1}, 19998)
	check(impl.PrCn, "A", "\x1b*I", impl.State{G0: 1, G2: 3}, "!", impl.State{G0: 1, G2: 3}, 33)
	check(impl.PrCn, "\x1b$*B", "\x1bN", impl.State{G0: 1, G2: 6, Single: 2}, "0!", impl.State{G0: 1, G2: 6}, 19968)
	check(impl.PrCt, "\xe9", "\x1b-F", impl.State{G0: 1, G1: 5}, "\xc1", impl.State{G0: 1, G1: 5}, 913)
	check(impl.PrCt, "\xe9", "\x1b)I", impl.State{G0: 1, G1: 3}, "\xa1", impl.State{G0: 1, G1: 3}, 65377)
	check(impl.PrCt, "\xe9", "\x1b$)B", impl.State{G0: 1, G1: 6}, "\xa4\xa2", impl.State{G0: 1, G1: 6}, 12354)
	check(impl.PrCt, "\xe9", "\x1b$(C", impl.State{G0: 7, G1: 4}, "0!", impl.State{G0: 7, G1: 4}, 44032)
}

// Escape sequences without a meaning, or with one that the profile does not
// allow, have their code when they are complete, at their ESC, and not before.
func TestSplitEscapeSequencesWithACode(t *testing.T) {
	rest, start := impl.State{G0: 1}, impl.Decoder{Profile: impl.PrJp, At: 3, State: impl.State{G0: 1}, Begun: true}
	for _, v := range []struct {
		escape string
		code   int
	}{
		{"\x1bZ", impl.ErrEscape}, {"\x1bN", impl.ErrForbidden}, {"\x1bn", impl.ErrForbidden}, {"\x1b(Q", impl.ErrEscape}, {"\x1b$A", impl.ErrForbidden},
		{"\x1b$C", impl.ErrEscape}, {"\x1b$)B", impl.ErrForbidden}, {"\x1b((B", impl.ErrEscape}, {"\x1b$((B", impl.ErrEscape}, {"\x1b.F", impl.ErrForbidden},
		{"\x1b((((", impl.ErrEscape}, {"\x1b    ", impl.ErrEscape}, {"\x1b//$/", impl.ErrEscape},
		// broken off: the next byte is no part of it
		{"\x1b\x1b", impl.ErrEscape}, {"\x1b(\x1b", impl.ErrEscape}, {"\x1b$(\n", impl.ErrEscape}, {"\x1b$((\x7f", impl.ErrEscape}, {"\x1b\xa0", impl.ErrEscape}, {"\x1b(\x00", impl.ErrEscape},
	} {
		checkFault(t, start, v.escape, 3, rest, v.code)
		for cut := 1; cut < len(v.escape); cut++ {
			waits := start
			waits.Rest = v.escape[:cut]
			checkWrite(t, start, v.escape[:cut], waits, impl.OK)
			checkFault(t, waits, v.escape[cut:], 3, rest, v.code)
			checkFault(t, waits, v.escape[cut:]+"A\n", 3, rest, v.code)
			checkPieces(t, impl.PrJp, []string{"ABC", v.escape[:cut], v.escape[cut:] + "D", "E"}, 3, v.code, 65, 66, 67)
		}
	}
}

// A tail waits also where the sequence cannot be allowed: its code is that of
// the complete token, or ErrShort at the end.
func TestTailsInAPendingState(t *testing.T) {
	s := impl.State{G0: 6, Lead: 36}
	d := impl.Decoder{Profile: impl.PrJp, At: 4, State: s, Begun: true}
	waits := d
	waits.Rest = "\x1b("
	checkWrite(t, d, "\x1b(", waits, impl.OK)
	checkFault(t, waits, "B", 4, s, impl.ErrShort)
	checkFault(t, waits, "Q", 4, s, impl.ErrEscape)
	checkFault(t, waits, "I", 4, s, impl.ErrForbidden)
	checkClosed(t, waits, impl.ErrShort)
	checkPieces(t, impl.PrJp, []string{"\x1b$B$", "\x1b", "(B"}, 4, impl.ErrShort)
	checkPieces(t, impl.PrJp, []string{"\x1b$B$", "\x1b"}, 4, impl.ErrShort)
	checkPieces(t, impl.PrJp2, []string{"\x1b.F\x1bN", "\x1b", "N"}, 5, impl.ErrShort)
	checkPieces(t, impl.PrJp2, []string{"\x1b.F\x1b", "N\x1b", "ZA"}, 5, impl.ErrEscape)
}

func TestCharactersInTwoPieces(t *testing.T) {
	// a lead byte, and the second byte of its code
	s := impl.State{G0: 6}
	d := impl.Decoder{Profile: impl.PrJp, At: 3, State: s, Begun: true}
	lead := d
	lead.At, lead.State.Lead = 4, 36
	checkWrite(t, d, "$", lead, impl.OK)
	done := d
	done.At = 5
	checkWrite(t, lead, "\"", done, impl.OK, 12354)
	checkFault(t, lead, "~", 4, lead.State, impl.ErrUnmapped)
	checkFault(t, lead, " ", 4, lead.State, impl.ErrShort)
	checkClosed(t, lead, impl.ErrShort)
	checkPieces(t, impl.PrJp, []string{"\x1b$B$\"$", "$\x1b(B"}, 10, impl.OK, 12354, 12356)
	// in the right half, and between two pieces of the other half
	checkPieces(t, impl.PrCt, []string{"\x1b$)B\xa4", "\xa2\xa4", "\xa4"}, 8, impl.OK, 12354, 12356)
	checkPieces(t, impl.PrCt, []string{"\x1b$)B\x1b$B\xa4", "$", "\xa2"}, 8, impl.ErrShort)
	checkPieces(t, impl.PrCt, []string{"\x1b$)B\x1b$B$", "\xa4", "\""}, 8, impl.ErrShort)
	// a locking shift, and the bytes that it shifts
	d = impl.Decoder{Profile: impl.PrKr, At: 4, State: impl.State{G0: 1, G1: 7}, Begun: true}
	shifted := d
	shifted.At, shifted.State.Left = 5, 1
	checkWrite(t, d, "\x0e", shifted, impl.OK)
	done = shifted
	done.At = 7
	checkWrite(t, shifted, "0!", done, impl.OK, 44032)
	checkClosed(t, done, impl.ErrReset)
	checkPieces(t, impl.PrKr, []string{"\x1b$)C", "\x0e", "0", "!", "\x0f", "A"}, 9, impl.OK, 44032, 65)
	checkPieces(t, impl.PrCn, []string{"\x1b$)A\x0e", "0!\x0f"}, 8, impl.OK, 19998)
	// a single shift, and the byte or the bytes that it shifts
	d = impl.Decoder{Profile: impl.PrCn, At: 4, State: impl.State{G0: 1, G2: 6}, Begun: true}
	single := d
	single.At, single.State.Single = 6, 2
	checkWrite(t, d, "\x1bN", single, impl.OK)
	lead = single
	lead.At, lead.State.Lead = 7, 48
	checkWrite(t, single, "0", lead, impl.OK)
	done = d
	done.At = 8
	checkWrite(t, lead, "!", done, impl.OK, 19968)
	done.At = 10
	checkWrite(t, lead, "!AB", done, impl.OK, 19968, 65, 66)
	checkFault(t, single, "\n", 6, single.State, impl.ErrShort)
	checkClosed(t, single, impl.ErrShort)
	checkClosed(t, lead, impl.ErrShort)
	checkPieces(t, impl.PrJp2, []string{"\x1b.A\x1bN", "i", "i"}, 7, impl.OK, 233, 105)
	checkPieces(t, impl.PrJp2, []string{"\x1b.A\x1bN", " ", " "}, 7, impl.OK, 160, 32)
	checkPieces(t, impl.PrJp2, []string{"\x1bN", "i"}, 2, impl.ErrState)
}

// Characters of several bytes of UTF-8 mean nothing here: each byte is a token.
func TestBytesAbove127InPieces(t *testing.T) {
	checkPieces(t, impl.PrCt, []string{"\xc3", "\xa9"}, 2, impl.OK, 195, 169)
	checkPieces(t, impl.PrJp, []string{"\xc3", "\xa9"}, 0, impl.ErrForbidden)
	checkPieces(t, impl.PrCt, []string{"\xc3", "\x80"}, 1, impl.ErrForbidden, 195)
}

func TestTheHeaderInPieces(t *testing.T) {
	const n, header = impl.PrKr, "\x1b$)C"
	start := impl.Decoder{Profile: n, State: impl.State{G0: 1}}
	begun := impl.Decoder{Profile: n, At: 4, State: impl.State{G0: 1, G1: 7}, Begun: true}
	longer := begun
	longer.At = 5
	checkWrite(t, start, header, begun, impl.OK)
	checkWrite(t, start, header+"A", longer, impl.OK, 65)
	checkClosed(t, begun, impl.OK)
	checkClosed(t, start, impl.ErrHeader)
	for cut := 1; cut < len(header); cut++ {
		waits := start
		waits.Rest = header[:cut]
		checkWrite(t, start, header[:cut], waits, impl.OK)
		checkWrite(t, waits, "", waits, impl.OK)
		checkWrite(t, waits, header[cut:], begun, impl.OK)
		checkWrite(t, waits, header[cut:]+"A", longer, impl.OK, 65)
		// the end, or any other byte
		checkClosed(t, waits, impl.ErrHeader)
		for b := range 256 {
			if byte(b) != header[cut] {
				checkOver(t, checkWrite(t, waits, string([]byte{byte(b)})+header[cut+1:], ended(start, impl.ErrHeader), impl.ErrHeader), impl.ErrHeader)
			}
		}
		checkWrite(t, waits, header, ended(start, impl.ErrHeader), impl.ErrHeader)
		for end := cut + 1; end < len(header); end++ {
			further := start
			further.Rest = header[:end]
			checkWrite(t, waits, header[cut:end], further, impl.OK)
		}
		checkPieces(t, n, []string{header[:cut], header[cut:] + "A"}, 5, impl.OK, 65)
		checkPieces(t, n, []string{header[:cut], "", header[cut:], "A"}, 5, impl.OK, 65)
		checkPieces(t, n, []string{header[:cut]}, 0, impl.ErrHeader)
		checkPieces(t, n, []string{header[:cut], "A", header}, 0, impl.ErrHeader)
	}
	checkPieces(t, n, []string{"\x1b", "$", ")", "C", "\x0e", "0", "!", "\x0f"}, 8, impl.OK, 44032)
	// what the first bytes are: nothing else decides
	for b := range 256 {
		if first := string([]byte{byte(b)}); b != 27 {
			checkOver(t, checkWrite(t, start, first, ended(start, impl.ErrHeader), impl.ErrHeader), impl.ErrHeader)
			checkWrite(t, start, first+header, ended(start, impl.ErrHeader), impl.ErrHeader)
		}
	}
	// the tokens behind the Header have their own codes
	checkOver(t, checkWrite(t, start, header+"A\x80", ended(longer, impl.ErrForbidden), impl.ErrForbidden, 65), impl.ErrForbidden)
	tail := begun
	tail.Rest = header[:3]
	checkWrite(t, start, header+header[:3], tail, impl.OK)
	checkClosed(t, tail, impl.ErrShort)
}

// The Header is read from the decoder's own state, also where that state is not
// the one in which a string begins.
func TestTheHeaderBehindAnotherState(t *testing.T) {
	odd := impl.Decoder{Profile: impl.PrKr, At: 9, State: impl.State{G0: 1, G1: 6, Left: 1}, Rest: "\x1b$"}
	begun := impl.Decoder{Profile: impl.PrKr, At: 13, State: impl.State{G0: 1, G1: 7, Left: 1}, Begun: true}
	checkWrite(t, odd, ")C", begun, impl.OK)
	checkWrite(t, odd, ")A", ended(odd, impl.ErrHeader), impl.ErrHeader)
	checkClosed(t, odd, impl.ErrHeader)
	odd.State.Lead = 48
	begun.At, begun.State = 9, odd.State
	checkWrite(t, odd, ")C", ended(begun, impl.ErrShort), impl.ErrShort)
	checkClosed(t, odd, impl.ErrHeader)
	// without a Header only the first byte begins
	odd = impl.Decoder{Profile: impl.PrJp, At: 9, State: impl.State{G0: 6, Lead: 36}}
	checkWrite(t, odd, "", odd, impl.OK)
	checkClosed(t, odd, impl.ErrShort)
	checkWrite(t, odd, "\"", impl.Decoder{Profile: impl.PrJp, At: 10, State: impl.State{G0: 6}, Begun: true}, impl.OK, 12354)
}

// The end of the input: ErrHeader, ErrShort, ErrReset, in this order.
func TestEndsOfInput(t *testing.T) {
	for _, row := range profileTable {
		code := impl.OK
		if row.header != "" {
			code = impl.ErrHeader
		}
		checkClosed(t, row.newDecoder(), code)
	}
	tails := []string{"\x1b", "\x1b$", "\x1b(", "\x1b$(", "\x1b   ", "\x1b$)("}
	for _, row := range profileTable {
		for _, s := range smallStates() {
			d := impl.Decoder{Profile: row.number, At: 11, State: s, Begun: true}
			switch {
			case isPending(s):
				checkClosed(t, d, impl.ErrShort)
			case !row.restByDocument(s):
				checkClosed(t, d, impl.ErrReset)
			default:
				checkClosed(t, d, impl.OK)
			}
			for _, d.Rest = range tails {
				checkClosed(t, d, impl.ErrShort)
			}
			if row.header != "" {
				d.Begun, d.Rest = false, ""
				checkClosed(t, d, impl.ErrHeader)
				d.Rest = row.header[:1]
				checkClosed(t, d, impl.ErrHeader)
			}
		}
	}
}

// Each code of a step in the middle of a piece: what comes before it is done.
func TestPiecesWithACode(t *testing.T) {
	decoder := func(n int, s impl.State) impl.Decoder {
		return impl.Decoder{Profile: n, At: 10, State: s, Begun: true}
	}
	ascii, kanji := impl.State{G0: 1}, impl.State{G0: 6}
	checkFault(t, decoder(impl.PrJp, ascii), "A\x1b$B$\x1b(B", 15, impl.State{G0: 6, Lead: 36}, impl.ErrShort, 65)
	checkFault(t, decoder(impl.PrJp, kanji), "$\"\x1b(B\x1bZA", 15, ascii, impl.ErrEscape, 12354)
	checkFault(t, decoder(impl.PrJp, kanji), "$\"\x1b(B\x80A", 15, ascii, impl.ErrForbidden, 12354)
	checkFault(t, decoder(impl.PrJp, kanji), "$\"~~", 13, impl.State{G0: 6, Lead: 126}, impl.ErrUnmapped, 12354)
	checkFault(t, decoder(impl.PrCn, ascii), "A\x0e!", 12, impl.State{G0: 1, Left: 1}, impl.ErrState, 65)
	checkFault(t, decoder(impl.PrJp, kanji), "$\"\n\x1b(B", 12, kanji, impl.ErrReset, 12354)
	checkFault(t, decoder(impl.PrKr, impl.State{G0: 1, G1: 7, Left: 1}), "0!\n", 12, impl.State{G0: 1, G1: 7, Left: 1}, impl.ErrReset, 44032)
	checkFault(t, decoder(impl.PrCt, ascii), "\x0e", 10, ascii, impl.ErrForbidden)
	// the first of several
	checkFault(t, decoder(impl.PrJp, ascii), "A\x80\x1bZ\x1b", 11, ascii, impl.ErrForbidden, 65)
	// a code does not reach beyond it: tails behind it do not wait
	checkFault(t, decoder(impl.PrJp, ascii), "\x1bZ\x1b(", 10, ascii, impl.ErrEscape)
	// behind a fault the pieces are not read
	checkPieces(t, impl.PrJp, []string{"A", "\x80", "\x1bZ", "B", "\x1b"}, 1, impl.ErrForbidden, 65)
	checkPieces(t, impl.PrJp, append([]string{"A\x1b(J\n"}, slices.Repeat([]string{"B"}, 1000)...), 4, impl.ErrReset, 65)
	checkPieces(t, impl.PrJp, append(slices.Repeat([]string{"B"}, 1000), "\xff"), 1000, impl.ErrForbidden, slices.Repeat([]int{66}, 1000)...)
}
