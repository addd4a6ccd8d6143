package tests

import (
	"math/rand"
	"slices"
	"strings"
	"testing"

	"loop.example/g00748/impl"
)

// A splitText is a string with what is expected of it in any pieces: the
// decoder and all characters behind each number of its bytes, the decoder that
// is closed at its end, and what Decode makes of the whole.
type splitText struct {
	number   int
	text     string
	behind   []impl.Decoder
	chars    [][]int
	closed   impl.Decoder
	list     []int
	at, code int
}

// splitTextOf takes from the document what a decoder holds. It does not depend
// on how the bytes came.
func (row profileRow) splitTextOf(chars *characters, text string) splitText {
	w := splitText{number: row.number, text: text}
	for end := range len(text) + 1 {
		d, list := row.decoderByDocument(chars, text[:end])
		w.behind, w.chars = append(w.behind, d), append(w.chars, list)
	}
	w.closed = row.closedByDocument(w.behind[len(text)])
	w.list, w.at, w.code = impl.Decode(row.number, text)
	return w
}

// decoderByDocument is the paragraph of chapter 9 on WritePiece, for all bytes
// that a new decoder has been given.
func (row profileRow) decoderByDocument(chars *characters, text string) (impl.Decoder, []int) {
	d := row.newDecoder()
	if text == "" {
		return d, nil
	}
	if len(text) < len(row.header) && strings.HasPrefix(row.header, text) {
		d.Rest = text
		return d, nil
	}
	if !strings.HasPrefix(text, row.header) {
		return ended(d, impl.ErrHeader), nil
	}
	d.Begun = true
	var list []int
	tokens, _ := impl.TokensOf(text)
	for _, x := range tokens {
		if x.Kind == impl.TkTail {
			d.Rest = text[x.At:]
			break
		}
		after := row.stepByDocument(chars, d.State, x)
		if after.code != impl.OK {
			return ended(d, after.code), list
		}
		if after.made {
			list = append(list, after.r)
		}
		d.State = after.state
		d.At += x.Len
	}
	return d, list
}

// closedByDocument is the paragraph of chapter 9 on CloseDecoder.
func (row profileRow) closedByDocument(d impl.Decoder) impl.Decoder {
	switch {
	case d.Over:
		return d
	case !d.Begun && row.header != "":
		return ended(d, impl.ErrHeader)
	case d.Rest != "" || isPending(d.State):
		return ended(d, impl.ErrShort)
	case !row.restByDocument(d.State):
		return ended(d, impl.ErrReset)
	}
	return ended(d, impl.OK)
}

// check checks P11 for one way to split the string.
func (w *splitText) check(t *testing.T, pieces []string) {
	t.Helper()
	d, _ := impl.NewDecoder(w.number)
	var all []int
	end := 0
	for i, piece := range pieces {
		next, list, code := impl.WritePiece(d, piece)
		end += len(piece)
		all = append(all, list...)
		if want := w.behind[end]; next != want || code != want.Code || !slices.Equal(all, w.chars[end]) {
			t.Fatalf("profile %d, pieces %.60q: behind piece %d the decoder is %+v and %d, with %v, want %+v, with %v", w.number, pieces, i, next, code, all, want, w.chars[end])
		}
		if !impl.DecoderOK(next) || len(next.Rest) > maxWaiting {
			t.Fatalf("profile %d, pieces %.60q: %+v is invalid", w.number, pieces, next)
		}
		d = next
	}
	d, code := impl.CloseDecoder(d)
	if d != w.closed || code != w.code || d.Code != w.code || d.At != w.at || !slices.Equal(all, w.list) || !impl.DecoderOK(d) {
		t.Fatalf("profile %d, pieces %.60q: the decoder ends as %+v and %d, with %v, want %+v; of the whole %v, %d, %d", w.number, pieces, d, code, all, w.closed, w.list, w.at, w.code)
	}
	w.checkForever(t, d)
	list, at, code := impl.DecodePieces(w.number, pieces)
	if !slices.Equal(list, w.list) || at != w.at || code != w.code {
		t.Fatalf("DecodePieces(%d, %.60q) = %v, %d, %d, of the whole %v, %d, %d", w.number, pieces, list, at, code, w.list, w.at, w.code)
	}
}

// checkForever checks that a decoder that is over keeps its code.
func (w *splitText) checkForever(t *testing.T, d impl.Decoder) {
	t.Helper()
	want := d.Code
	if want == impl.OK {
		want = impl.ErrState
	}
	for _, piece := range []string{"A", "", w.text} {
		next, list, code := impl.WritePiece(d, piece)
		closed, end := impl.CloseDecoder(d)
		if next != d || len(list) != 0 || code != want || closed != d || end != want {
			t.Fatalf("%+v, given %.60q: %+v, %v, %d, and closed: %+v, %d, want %d", d, piece, next, list, code, closed, end, want)
		}
	}
}

// cutAt splits a string at places in increasing order, equal ones among them.
func cutAt(text string, places ...int) []string {
	var pieces []string
	from := 0
	for _, at := range places {
		pieces = append(pieces, text[from:at])
		from = at
	}
	return append(pieces, text[from:])
}

// singleBytes splits a string into its bytes, with empty pieces between them if
// wanted.
func singleBytes(text string, empty bool) []string {
	var pieces []string
	for i := range len(text) {
		if empty {
			pieces = append(pieces, "")
		}
		pieces = append(pieces, text[i:i+1])
	}
	return pieces
}

func (w *splitText) checkSinglePlaces(t *testing.T) {
	t.Helper()
	w.check(t, []string{w.text})
	w.check(t, singleBytes(w.text, false))
	w.check(t, singleBytes(w.text, true))
	for at := range len(w.text) + 1 {
		w.check(t, cutAt(w.text, at))
	}
}

// checkEveryPair splits the string at every single place and at every pair of
// them, also at its ends and twice at the same place.
func (w *splitText) checkEveryPair(t *testing.T) {
	t.Helper()
	w.checkSinglePlaces(t)
	for one := range len(w.text) + 1 {
		for two := one; two <= len(w.text); two++ {
			w.check(t, cutAt(w.text, one, two))
		}
	}
}

// checkRandomly splits the string at random places, some of them equal.
func (w *splitText) checkRandomly(t *testing.T, source *rand.Rand) {
	t.Helper()
	for range 20 {
		w.check(t, randomPieces(source, w.text, 1+source.Intn(12)))
	}
}

func randomPieces(source *rand.Rand, text string, count int) []string {
	var places []int
	for range count {
		at := source.Intn(len(text) + 1)
		places = append(places, slices.Repeat([]int{at}, 1+source.Intn(2))...)
	}
	slices.Sort(places)
	return cutAt(text, places...)
}

func TestPiecesOfValidStrings(t *testing.T) {
	chars := charactersOfSets()
	eachProfile(t, func(t *testing.T, row profileRow) {
		for _, v := range validTexts {
			if v.n != row.number {
				continue
			}
			for _, behind := range []string{"", "\x1b", "\x80A", "\x1bZA\n", "\x1b(QA", "\x1b+BA", "\x1b((((B", "\x1b$B$\nA", "\x1b(\n"} {
				w := row.splitTextOf(&chars, v.text+behind)
				if behind == "" && (w.code != impl.OK || !slices.Equal(w.list, v.chars)) {
					t.Errorf("Decode(%d, %q) = %v, %d", v.n, v.text, w.list, w.code)
				}
				w.checkEveryPair(t)
			}
		}
		// without the Header, and what is valid in other profiles
		for _, v := range validTexts {
			w := row.splitTextOf(&chars, v.text)
			w.checkEveryPair(t)
		}
	})
}

func TestPiecesOfEncodings(t *testing.T) {
	chars, all := charactersOfSets(), codesOfSets()
	eachProfile(t, func(t *testing.T, row profileRow) {
		source := rand.New(rand.NewSource(int64(row.number)))
		lists := row.characters(&all)
		for i := range 60 {
			list := randomList(source, lists, i%12)
			text, _, code := impl.Encode(row.number, list)
			w := row.splitTextOf(&chars, text)
			if code != impl.OK || w.code != impl.OK || !slices.Equal(w.list, list) {
				t.Fatalf("Encode(%d, %v) = %q, %d, which is decoded to %v, %d", row.number, list, text, code, w.list, w.code)
			}
			w.checkEveryPair(t)
			w.checkRandomly(t, source)
		}
		text, _, _ := impl.Encode(row.number, randomList(source, lists, impl.MaxChars))
		w := row.splitTextOf(&chars, text)
		w.checkEveryPair(t)
		w.checkRandomly(t, source)
	})
}

// Tokens of the profile and others, one behind the other; P17 for those that
// are not valid.
func TestPiecesOfRandomTokens(t *testing.T) {
	chars := charactersOfSets()
	eachProfile(t, func(t *testing.T, row profileRow) {
		source := rand.New(rand.NewSource(int64(row.number)))
		parts := row.partsOf()
		valid := 0
		for range 250 {
			w := row.splitTextOf(&chars, row.randomText(source, parts))
			if w.code == impl.OK {
				valid++
			}
			w.checkEveryPair(t)
			w.checkRandomly(t, source)
		}
		if valid < 10 {
			t.Errorf("only %d strings are valid in %s", valid, row.name)
		}
	})
}

// Any bytes, those of escape sequences more often than others.
func TestPiecesOfRandomBytes(t *testing.T) {
	chars := charactersOfSets()
	eachProfile(t, func(t *testing.T, row profileRow) {
		source := rand.New(rand.NewSource(int64(row.number)))
		const often = "\x1b\x1b\x1b$$()*+-./ ABCFIJNO\n\x0e\x0f0!"
		for range 300 {
			text := make([]byte, source.Intn(24))
			for i := range text {
				text[i] = byte(source.Intn(256))
				if source.Intn(3) != 0 {
					text[i] = often[source.Intn(len(often))]
				}
			}
			for _, start := range []string{"", row.header, row.header + "A"} {
				w := row.splitTextOf(&chars, start+string(text))
				w.checkEveryPair(t)
			}
		}
	})
}

// Every string of three of the bytes that matter, behind several starts, split
// at every single place and into single bytes.
func TestPiecesOfEveryShortString(t *testing.T) {
	chars := charactersOfSets()
	const some = "\n\x0e\x0f\x1b $(.0ANZ\x7f\xa1"
	eachProfile(t, func(t *testing.T, row profileRow) {
		for _, start := range []string{"", row.header, row.header + "\x1b", row.header + "\x1b$"} {
			for a := range len(some) {
				for b := range len(some) {
					for c := range len(some) {
						w := row.splitTextOf(&chars, start+string([]byte{some[a], some[b], some[c]}))
						w.checkSinglePlaces(t)
					}
				}
			}
		}
	})
}

// Every byte behind every kind of waiting bytes.
func TestEveryByteBehindATail(t *testing.T) {
	tails := []string{"\x1b"}
	for from := 0; len(tails[len(tails)-1]) < maxWaiting; {
		end := len(tails)
		for _, tail := range tails[from:end] {
			for _, between := range []string{" ", "$", "(", ")", "*", "-", "."} {
				tails = append(tails, tail+between)
			}
		}
		from = end
	}
	eachProfile(t, func(t *testing.T, row profileRow) {
		for _, tail := range tails {
			for b := range 256 {
				text := row.header + tail + string([]byte{byte(b)}) + "A"
				w := splitText{number: row.number, text: text}
				w.list, w.at, w.code = impl.Decode(row.number, text)
				at := len(text) - 2
				w.checkWhole(t, cutAt(text, at))
				w.checkWhole(t, cutAt(text, at, at, at+1))
				w.checkWhole(t, cutAt(text, len(row.header), len(row.header)+1, at, at+1))
			}
		}
		if len(tails) != 1+7+49+343 {
			t.Fatal(len(tails), "tails")
		}
	})
}

// checkWhole checks what comes of the pieces, beside Decode of the whole.
func (w *splitText) checkWhole(t *testing.T, pieces []string) {
	t.Helper()
	d, _ := impl.NewDecoder(w.number)
	var all []int
	code := impl.OK
	for _, piece := range pieces {
		var list []int
		if d, list, code = impl.WritePiece(d, piece); code != impl.OK {
			all = append(all, list...)
			break
		}
		all = append(all, list...)
	}
	if code == impl.OK {
		d, code = impl.CloseDecoder(d)
	}
	if !slices.Equal(all, w.list) || d.At != w.at || code != w.code || d.Code != w.code || !d.Over {
		t.Fatalf("profile %d, pieces %.60q: %+v and %d, with %v, of the whole %v, %d, %d", w.number, pieces, d, code, all, w.list, w.at, w.code)
	}
	list, at, code := impl.DecodePieces(w.number, pieces)
	if !slices.Equal(list, w.list) || at != w.at || code != w.code {
		t.Fatalf("DecodePieces(%d, %.60q) = %v, %d, %d, of the whole %v, %d, %d", w.number, pieces, list, at, code, w.list, w.at, w.code)
	}
}

// Long strings: valid ones one behind the other, and a fault behind some.
func TestPiecesOfLongStrings(t *testing.T) {
	eachProfile(t, func(t *testing.T, row profileRow) {
		source := rand.New(rand.NewSource(int64(row.number)))
		behind := "\x1b(B\n"
		if row.right {
			behind += "\x1b-A" // a line end does not bring it back
		}
		for i := range 20 {
			text := row.header
			for len(text) < impl.MaxList-200 {
				v := validTexts[source.Intn(len(validTexts))]
				if v.n == row.number {
					text += strings.TrimPrefix(v.text, row.header) + behind
				}
			}
			text += []string{"", "\x80", "\x1b(", "\x1bZA"}[i%4]
			w := splitText{number: row.number, text: text}
			w.list, w.at, w.code = impl.Decode(row.number, text)
			if w.at < impl.MaxList-250 {
				t.Fatalf("profile %d: a fault at %d, %d", row.number, w.at, w.code)
			}
			w.checkWhole(t, []string{text})
			w.checkWhole(t, singleBytes(text, false))
			for range 10 {
				w.checkWhole(t, randomPieces(source, text, 1+source.Intn(300)))
			}
		}
	})
}
