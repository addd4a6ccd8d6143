package tests

import (
	"math/rand"
	"slices"
	"strings"
	"testing"

	"loop.example/g00748/impl"
)

// A lineText is a text of UTF-8 with what is expected of it in any pieces: the
// encoder and all output behind each number of its bytes, and at its end.
type lineText struct {
	row    profileRow
	text   string
	behind []impl.Encoder
	output []string
	closed impl.Encoder
	whole  string
	// the characters, if the text is valid UTF-8
	list  []int
	valid bool
}

// lineTextOf takes from the document what an encoder holds. It does not depend
// on how the bytes came.
func (row profileRow) lineTextOf(all *codes, text string) lineText {
	w := lineText{row: row, text: text}
	e, from, output := impl.Encoder{Profile: row.number}, 0, ""
	for end := range len(text) + 1 {
		if e.Rest = text[from:end]; e.Over {
			e.Rest = ""
		}
		if r, _, code := takeByDocument(e.Rest, 0); e.Rest != "" && code != impl.ErrShort {
			var line string
			e, line = row.acceptedByDocument(all, e, r, code)
			output += line
			from = end
		}
		w.behind, w.output = append(w.behind, e), append(w.output, output)
	}
	w.closed, w.whole = e, output
	if !e.Over {
		line := ""
		w.closed, line = row.closedEncoder(e)
		w.whole += line
	}
	list, _, code := runesByDocument(text)
	w.list, w.valid = list, code == impl.OK
	return w
}

// acceptedByDocument is what chapter 10 says of one character, or of a sequence
// with a code. It returns the output beside the encoder.
func (row profileRow) acceptedByDocument(all *codes, e impl.Encoder, r, code int) (impl.Encoder, string) {
	switch {
	case code != impl.OK:
		return endedEncoder(e, code), ""
	case !row.canByDocument(all, r):
		return endedEncoder(e, impl.ErrUnmapped), ""
	case len(e.Line) == impl.MaxChars:
		return endedEncoder(e, impl.ErrMany), ""
	}
	e.Rest = ""
	e.Line = append(slices.Clone(e.Line), r)
	e.Count++
	if r == 10 && row.reset {
		return writtenEncoder(e), row.encodedLine(e)
	}
	return e, ""
}

func (row profileRow) encodedLine(e impl.Encoder) string {
	text, _, _ := impl.Encode(row.number, e.Line)
	if e.Begun {
		return text[len(row.header):]
	}
	return text
}

// closedEncoder is what chapter 10 says of the end of the input.
func (row profileRow) closedEncoder(e impl.Encoder) (impl.Encoder, string) {
	if e.Rest != "" {
		return endedEncoder(e, impl.ErrShort), ""
	}
	return endedEncoder(writtenEncoder(e), impl.OK), row.encodedLine(e)
}

// check checks P12 for one way to split the text.
func (w *lineText) check(t *testing.T, pieces []string) {
	t.Helper()
	e, _ := impl.NewEncoder(w.row.number)
	all, end := "", 0
	for i, piece := range pieces {
		next, out, code := impl.WriteText(e, piece)
		end += len(piece)
		all += out
		want := w.behind[end]
		if !equalEncoders(next, want) || code != want.Code || all != w.output[end] {
			t.Fatalf("profile %d, pieces %.60q: behind piece %d the encoder is %+v and %d, with %q, want %+v, with %q", w.row.number, pieces, i, next, code, all, want, w.output[end])
		}
		w.checkCopy(t, next, e, piece)
		e = next
	}
	e, out, code := impl.CloseEncoder(e)
	if !equalEncoders(e, w.closed) || code != w.closed.Code || all+out != w.whole || !impl.EncoderOK(e) {
		t.Fatalf("profile %d, pieces %.60q: the encoder ends as %+v and %d, with %q, want %+v, with %q", w.row.number, pieces, e, code, all+out, w.closed, w.whole)
	}
	out, count, code := impl.EncodePieces(w.row.number, pieces)
	if out != w.whole || count != w.closed.Count || code != w.closed.Code {
		t.Fatalf("EncodePieces(%d, %.60q) = %q, %d, %d, want %q, %d, %d", w.row.number, pieces, out, count, code, w.whole, w.closed.Count, w.closed.Code)
	}
}

// checkCopy checks that an encoder is valid, is the same as a copy of it, and is
// the encoder before it only if nothing has changed.
func (w *lineText) checkCopy(t *testing.T, e, before impl.Encoder, piece string) {
	t.Helper()
	other := e
	other.Line = slices.Clone(e.Line)
	stays := piece == "" || before.Over
	if !impl.EncoderOK(e) || !impl.SameEncoder(e, other) || impl.SameEncoder(e, before) != stays {
		t.Fatalf("profile %d, %.60q: SameEncoder and EncoderOK of %+v, behind %+v and %q", w.row.number, w.text, e, before, piece)
	}
}

// checkWhole checks P12: the output beside Encode of all characters, or of each
// line, and Decode of the output.
func (w *lineText) checkWhole(t *testing.T) {
	t.Helper()
	if w.closed.Code != impl.OK {
		return
	}
	n, header := w.row.number, w.row.header
	if !w.valid || w.closed.Count != len(w.list) {
		t.Fatalf("profile %d, %.60q: encoded, with %d characters", n, w.text, w.closed.Count)
	}
	if len(w.list) <= impl.MaxChars {
		if text, _, code := impl.Encode(n, w.list); text != w.whole || code != impl.OK {
			t.Fatalf("profile %d, %.60q: encoded to %q, and as a whole to %q, %d", n, w.text, w.whole, text, code)
		}
	}
	if w.row.reset {
		lines, code := impl.LinesOf(w.list)
		byLines := header
		for _, line := range lines {
			text, _, _ := impl.Encode(n, line)
			byLines += text[len(header):]
		}
		if byLines != w.whole || code != impl.OK {
			t.Fatalf("profile %d, %.60q: encoded to %q, and line by line to %q, %d", n, w.text, w.whole, byLines, code)
		}
		w.checkLinesWritten(t, lines)
	}
	if !strings.HasPrefix(w.whole, header) || header != "" && strings.Count(w.whole, header) != 1 {
		t.Fatalf("profile %d, %.60q: the Header is not there once in %q", n, w.text, w.whole)
	}
	if list, at, code := impl.Decode(n, w.whole); !slices.Equal(list, w.list) || code != impl.OK {
		t.Fatalf("profile %d, %.60q: %q is decoded to %v, %d, %d", n, w.text, w.whole, list, at, code)
	}
}

// checkLinesWritten checks that the lines are those of LinesOf: the encoder
// writes one with each of their last characters.
func (w *lineText) checkLinesWritten(t *testing.T, lines [][]int) {
	t.Helper()
	e, _ := impl.NewEncoder(w.row.number)
	for i, line := range lines {
		text, _ := impl.TextOf(line)
		last := line[len(line)-1] == 10
		next, out, code := impl.WriteText(e, text)
		if code != impl.OK || (out != "") != last || (len(next.Line) == 0) != last || !last && (i != len(lines)-1 || !slices.Equal(next.Line, line)) {
			t.Fatalf("profile %d, %.60q: line %d of LinesOf is %v, with which the encoder writes %q and has %+v", w.row.number, w.text, i, line, out, next)
		}
		e = next
	}
}

func (w *lineText) checkSinglePlaces(t *testing.T) {
	t.Helper()
	w.checkWhole(t)
	w.check(t, []string{w.text})
	w.check(t, singleBytes(w.text, false))
	w.check(t, singleBytes(w.text, true))
	for at := range len(w.text) + 1 {
		w.check(t, cutAt(w.text, at))
	}
}

// checkRandomly splits the text at random places, some of them equal.
func (w *lineText) checkRandomly(t *testing.T, source *rand.Rand, times int) {
	t.Helper()
	for range times {
		w.check(t, randomPieces(source, w.text, 1+source.Intn(12)))
	}
}

// linesToWrite draws lines that a profile can write: none has more than size
// characters, and together they are no more than may wait if no line end writes
// them.
func (row profileRow) linesToWrite(source *rand.Rand, lists [][]int, lines, size int) []int {
	var list []int
	for i := range lines {
		line := randomList(source, lists, 1+source.Intn(size))
		if row.reset && source.Intn(4) != 0 {
			line = slices.DeleteFunc(line, func(r int) bool { return r == 10 })
		}
		if len(line) == size {
			line = line[:size-1]
		}
		if list = append(list, line...); i < lines-1 || source.Intn(2) == 0 {
			list = append(list, 10)
		}
	}
	if !row.reset && len(list) > impl.MaxChars {
		list = list[:impl.MaxChars]
	}
	return list
}

func textOf(t *testing.T, list []int) string {
	t.Helper()
	text, code := impl.TextOf(list)
	if code != impl.OK {
		t.Fatalf("TextOf(%v): %d", list, code)
	}
	return text
}

// Characters of every set, in one line and in many.
func TestEncodingLinesInPieces(t *testing.T) {
	all := codesOfSets()
	eachProfile(t, func(t *testing.T, row profileRow) {
		source := rand.New(rand.NewSource(int64(row.number)))
		lists := row.characters(&all)
		for i := range 36 {
			list := row.linesToWrite(source, lists, 1+i%6, 2+i%9)
			w := row.lineTextOf(&all, textOf(t, list))
			if w.closed.Code != impl.OK || !slices.Equal(w.list, list) {
				t.Fatalf("profile %d, %v: %+v", row.number, list, w.closed)
			}
			w.checkSinglePlaces(t)
			w.checkRandomly(t, source, 10)
		}
	})
}

// Long lines, the longest ones among them, and more characters than may wait
// in one line.
func TestEncodingLongLinesInPieces(t *testing.T) {
	all := codesOfSets()
	eachProfile(t, func(t *testing.T, row profileRow) {
		source := rand.New(rand.NewSource(int64(row.number)))
		lists := row.characters(&all)
		for i := range 8 {
			list := row.linesToWrite(source, lists, 1+i%4, impl.MaxChars)
			w := row.lineTextOf(&all, textOf(t, list))
			if w.closed.Code != impl.OK {
				t.Fatalf("profile %d, %v: %+v", row.number, list, w.closed)
			}
			w.checkWhole(t)
			w.check(t, []string{w.text})
			w.check(t, singleBytes(w.text, true))
			w.checkRandomly(t, source, 6)
		}
		// a line of MaxChars characters, and the next character
		for _, more := range []int{65, 10} {
			full := slices.DeleteFunc(row.linesToWrite(source, lists, 8, 20), func(r int) bool { return r == 10 })
			full = append(full, slices.Repeat([]int{65}, impl.MaxChars)...)[:impl.MaxChars]
			w := row.lineTextOf(&all, textOf(t, full))
			w.checkSinglePlaces(t)
			tooMany := row.lineTextOf(&all, textOf(t, append(full, more)))
			if w.closed.Code != impl.OK || tooMany.closed.Code != impl.ErrMany {
				t.Fatalf("profile %d, %v: %+v, with %d more: %+v", row.number, full, w.closed, more, tooMany.closed)
			}
			tooMany.checkSinglePlaces(t)
		}
	})
}

// Every character that a profile can encode, alone, split behind each byte.
func TestEncodingEveryCharacterInPieces(t *testing.T) {
	all := codesOfSets()
	eachProfile(t, func(t *testing.T, row profileRow) {
		for _, r := range charactersToTry() {
			for _, list := range [][]int{{r}, {r, 10, r}} {
				w := row.lineTextOf(&all, textOf(t, list))
				can := row.canByDocument(&all, r)
				if (w.closed.Code == impl.OK) != can || !can && w.closed.Code != impl.ErrUnmapped {
					t.Fatalf("profile %d, %v: %+v", row.number, list, w.closed)
				}
				w.checkWhole(t)
				w.check(t, []string{w.text})
				w.check(t, singleBytes(w.text, false))
			}
		}
	})
}

// Lines with a character that the profile cannot encode, with invalid UTF-8, or
// cut off, and with something behind that.
func TestEncodingFaultsInPieces(t *testing.T) {
	all := codesOfSets()
	good := []string{"\n", "A", "B \n", "A\xe3\x81\x82", "\xe3\x81\x82\n", "", "\xea\xb0\x80", "\xc3\xa9", "\xef\xbd\xa1", "\xce\x91"}
	faults := [][]string{{""}, {"\x1b", "\xc4\x80", "\xf0\x9f\x98\x80"}, {"\x80", "\xff", "\xe3A", "\xc0\x80", "\xed\xa0\x80", "\xf4\x90\x80\x80"}, {"\xe3", "\xe3\x81", "\xf0\x9f\x98", "\xc0"}}
	eachProfile(t, func(t *testing.T, row profileRow) {
		source := rand.New(rand.NewSource(int64(row.number)))
		seen := map[int]int{}
		for i := range 240 {
			text := ""
			for range source.Intn(6) {
				text += good[source.Intn(6+i%5)]
			}
			fault := faults[i%len(faults)]
			text += fault[source.Intn(len(fault))]
			if source.Intn(3) == 0 {
				text += good[source.Intn(len(good))]
			}
			w := row.lineTextOf(&all, text)
			seen[w.closed.Code]++
			w.checkSinglePlaces(t)
			w.checkRandomly(t, source, 4)
		}
		for _, code := range []int{impl.OK, impl.ErrUnmapped, impl.ErrUtf, impl.ErrShort} {
			if seen[code] < 10 {
				t.Errorf("profile %d: only %d texts with the code %d", row.number, seen[code], code)
			}
		}
	})
}

// Any bytes, those at which a rule of UTF-8 changes more often than others.
func TestEncodingAnyBytesInPieces(t *testing.T) {
	all := codesOfSets()
	eachProfile(t, func(t *testing.T, row profileRow) {
		source := rand.New(rand.NewSource(int64(row.number)))
		for a := range 256 {
			for _, before := range []string{"A\n", "\xc3", "\xe3\x81", "\xf0\x9f\x98", "\xed"} {
				w := row.lineTextOf(&all, before+string([]byte{byte(a)})+"B")
				w.checkSinglePlaces(t)
			}
		}
		for range 200 {
			text := make([]byte, source.Intn(10))
			for i := range text {
				text[i] = byte(source.Intn(256))
				if source.Intn(3) != 0 {
					text[i] = edgeBytes[source.Intn(len(edgeBytes))]
				}
			}
			w := row.lineTextOf(&all, "A\n"+string(text)+"\n")
			w.checkSinglePlaces(t)
		}
	})
}

// What Decode gives of valid strings is encoded in pieces, and decoded again.
func TestEncodingDecodedLinesInPieces(t *testing.T) {
	all := codesOfSets()
	for _, v := range validTexts {
		for _, row := range profileTable {
			w := row.lineTextOf(&all, textOf(t, v.chars))
			if row.number == v.n && (w.closed.Code != impl.OK || len(w.whole) > len(v.text)) {
				t.Errorf("profile %d, %v: %+v, with %q for %q", v.n, v.chars, w.closed, w.whole, v.text)
			}
			w.checkSinglePlaces(t)
		}
	}
}

// Texts of many lines, up to what EncodePieces accepts.
func TestEncodingManyLinesInPieces(t *testing.T) {
	all := codesOfSets()
	eachProfile(t, func(t *testing.T, row profileRow) {
		if !row.reset {
			return
		}
		source := rand.New(rand.NewSource(int64(row.number)))
		lists := row.characters(&all)
		text := ""
		for len(text) < impl.MaxList-300 {
			text += textOf(t, append(row.linesToWrite(source, lists, 2, 40), 10))
		}
		w := row.lineTextOf(&all, text)
		out, count, code := impl.EncodePieces(row.number, []string{text})
		if out != w.whole || count != w.closed.Count || code != impl.OK || w.closed.Code != impl.OK {
			t.Fatalf("profile %d: %d, %+v", row.number, code, w.closed)
		}
		w.check(t, singleBytes(text, false))
		w.checkRandomly(t, source, 3)
		// the output is too long for Decode
		d, _ := impl.NewDecoder(row.number)
		d, list, code := impl.WritePiece(d, out)
		if !slices.Equal(list, w.list) || code != impl.OK {
			t.Fatalf("profile %d: the output is not decoded: %+v, %d", row.number, d, code)
		}
		if d, code = impl.CloseDecoder(d); code != impl.OK {
			t.Fatalf("profile %d: the output is not closed: %+v, %d", row.number, d, code)
		}
	})
}
