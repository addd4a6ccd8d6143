package tests

import (
	"math"
	"runtime"
	"slices"
	"strings"
	"testing"
	"time"
	"unsafe"

	"loop.example/g00748/impl"
)

// The most bytes that a decoder processes, and the most that wait.
const (
	maxBytes   = 1000000000
	maxWaiting = 4
)

var (
	tooLongPiece = strings.Repeat("a", impl.MaxText+1)
	longestPiece = tooLongPiece[:impl.MaxText]
)

// A decoder that is over has one code, whatever else it holds: ErrState for OK.
func TestDecodersThatAreOver(t *testing.T) {
	for _, d := range newDecoders() {
		for code := impl.OK; code <= impl.ErrSame; code++ {
			for _, s := range smallStates() {
				d := impl.Decoder{Profile: d.Profile, Code: code, State: s, Over: true}
				want := code
				if code == impl.OK {
					want = impl.ErrState
				}
				for _, d.Begun = range []bool{false, true} {
					for _, d.At = range []int{0, 5, maxBytes - 1, maxBytes} {
						if !impl.DecoderOK(d) {
							t.Errorf("DecoderOK(%+v) = false", d)
						}
						for _, piece := range []string{"", "A", "\x1b$)C", "\x80"} {
							checkWrite(t, d, piece, d, want)
						}
						checkEnd(t, d, d, want)
					}
				}
				if t.Failed() {
					return
				}
			}
		}
	}
}

// ErrFull, with the decoder unchanged, if At, Rest and the piece exceed the limit.
func TestDecodersThatAreFull(t *testing.T) {
	for _, row := range profileTable {
		for _, rest := range []string{"", "\x1b", "\x1b$", "\x1b$("} {
			d := impl.Decoder{Profile: row.number, State: row.start, Rest: rest, Begun: true}
			for _, piece := range []string{"", "(", "(A", strings.Repeat("(", 100), strings.Repeat("A", impl.MaxText)} {
				fits := maxBytes - len(rest) - len(piece)
				for _, d.At = range []int{fits + 1, fits + 2, maxBytes - len(piece), maxBytes - 1, maxBytes} {
					if d.At > fits && d.At <= maxBytes {
						checkWrite(t, d, piece, d, impl.ErrFull)
					}
				}
				d.At = fits
				if _, _, code := impl.WritePiece(d, piece); code == impl.ErrFull {
					t.Errorf("WritePiece(%+v, %d bytes) = %d", d, len(piece), code)
				}
			}
		}
	}
	d := impl.Decoder{Profile: impl.PrJp, At: maxBytes - 3, State: impl.State{G0: 1}, Rest: "\x1b(", Begun: true}
	full := impl.Decoder{Profile: impl.PrJp, At: maxBytes, State: impl.State{G0: 2}, Begun: true}
	checkWrite(t, d, "J", full, impl.OK)
	checkWrite(t, d, "JA", d, impl.ErrFull)
	checkWrite(t, full, "", full, impl.OK)
	checkWrite(t, full, "A", full, impl.ErrFull)
	checkWrite(t, full, "\x80", full, impl.ErrFull)
	checkClosed(t, full, impl.ErrReset)
	// the waiting bytes count, though At may be at the limit
	full.Rest = "\x1b"
	checkWrite(t, full, "", full, impl.ErrFull)
	checkClosed(t, full, impl.ErrShort)
	// before ErrHeader, and with the bytes of a Header
	d = impl.Decoder{Profile: impl.PrKr, At: maxBytes - 3, State: impl.State{G0: 1}, Rest: "\x1b"}
	checkWrite(t, d, "AAA", d, impl.ErrFull)
	checkWrite(t, d, "$)C", d, impl.ErrFull)
	checkWrite(t, d, "AA", ended(d, impl.ErrHeader), impl.ErrHeader)
	waits := d
	waits.Rest = "\x1b$)"
	checkWrite(t, d, "$)", waits, impl.OK)
	checkWrite(t, waits, "C", waits, impl.ErrFull)
	d.At--
	checkWrite(t, d, "$)C", impl.Decoder{Profile: impl.PrKr, At: maxBytes, State: impl.State{G0: 1, G1: 7}, Begun: true}, impl.OK)
	// not for ever: ErrFull is no code of the decoder
	d = impl.Decoder{Profile: impl.PrCt, At: maxBytes - 1, State: impl.State{G0: 1, G1: 4}, Begun: true}
	checkWrite(t, d, "AB", d, impl.ErrFull)
	full = d
	full.At = maxBytes
	checkWrite(t, d, "A", full, impl.OK, 65)
	checkClosed(t, d, impl.OK)
}

// At most MaxText bytes in a piece: ErrLong comes before all other codes.
func TestLongPieces(t *testing.T) {
	for _, row := range profileTable {
		d := impl.Decoder{Profile: row.number, State: row.start, Begun: true}
		done := d
		done.At = impl.MaxText
		checkWrite(t, d, longestPiece, done, impl.OK, slices.Repeat([]int{97}, impl.MaxText)...)
		for _, d := range []impl.Decoder{d, row.newDecoder(), ended(d, impl.ErrReset), {}, {Profile: row.number, At: maxBytes, State: row.start}} {
			checkWrite(t, d, tooLongPiece, impl.Decoder{}, impl.ErrLong)
			checkWrite(t, d, strings.Repeat("\x80", 3*impl.MaxText), impl.Decoder{}, impl.ErrLong)
		}
	}
	// behind waiting bytes the tokens reach beyond MaxText
	d := impl.Decoder{Profile: impl.PrJp, State: impl.State{G0: 1}, Rest: "\x1b$(", Begun: true}
	done := impl.Decoder{Profile: impl.PrJp, At: impl.MaxText + 3, State: impl.State{G0: 1}, Begun: true}
	tail := done
	tail.At, tail.Rest = done.At-3, "\x1b$("
	body := "B$\"\x1b(B" + longestPiece[:impl.MaxText-6]
	chars := append([]int{12354}, slices.Repeat([]int{97}, impl.MaxText-6)...)
	checkWrite(t, d, body, done, impl.OK, chars...)
	checkWrite(t, d, body[:impl.MaxText-3]+"\x1b$(", tail, impl.OK, chars[:len(chars)-3]...)
	done.At--
	checkWrite(t, d, body[:impl.MaxText-1]+"\x80", ended(done, impl.ErrForbidden), impl.ErrForbidden, chars[:len(chars)-1]...)
}

// waitsByDocument reports what chapter 9 says of the waiting bytes of a decoder
// that is not over.
func (row profileRow) waitsByDocument(rest string, begun bool) bool {
	if !begun {
		return rest == "" || len(rest) < len(row.header) && strings.HasPrefix(row.header, rest)
	}
	if rest == "" {
		return true
	}
	tokens, _ := impl.TokensOf(rest)
	return len(rest) <= maxWaiting && len(tokens) == 1 && tokens[0].Kind == impl.TkTail
}

// refuse checks that a decoder is invalid, in all functions that take one.
func refuse(t *testing.T, d impl.Decoder) {
	t.Helper()
	for _, piece := range []string{"", "A", "\x1b", "$)C", "\x1b$)C", "\xff", longestPiece} {
		checkWrite(t, d, piece, impl.Decoder{}, impl.ErrBad)
	}
	checkEnd(t, d, impl.Decoder{}, impl.ErrBad)
	checkWrite(t, d, tooLongPiece, impl.Decoder{}, impl.ErrLong)
	if impl.DecoderOK(d) {
		t.Errorf("DecoderOK(%+v) = true", d)
	}
}

func accept(t *testing.T, d impl.Decoder) {
	t.Helper()
	_, _, one := impl.WritePiece(d, "")
	_, two := impl.CloseDecoder(d)
	if !impl.DecoderOK(d) || one == impl.ErrBad && d.Code != impl.ErrBad || two == impl.ErrBad && d.Code != impl.ErrBad {
		t.Errorf("%+v is invalid: %d, %d", d, one, two)
	}
}

// waitingTexts lists what may or may not wait: all short strings of bytes that
// matter, and longer ones.
func waitingTexts() []string {
	const some = "\x1b$()-/ 0BC\x7f\n\xa0"
	list, from := []string{""}, 0
	for range 3 {
		end := len(list)
		for _, text := range list[from:end] {
			for i := range len(some) {
				list = append(list, text+some[i:i+1])
			}
		}
		from = end
	}
	return append(list, "\x1b(((", "\x1b$)(", "\x1b$((", "\x1b   ", "\x1b///", "\x1b\x2f\x2f\x30", "\x1b$)C", "\x1b$)C\x1b", "\x1b((((", "\x1b$)((", "\x1b(((\x1b", "A\x1b((",
		"\x1b(\x1b(", "\x1b$)CA", "\x1b(((((", strings.Repeat("(", impl.MaxText+1), "\x1b"+strings.Repeat("(", impl.MaxText))
}

func TestTheWaitingBytesOfADecoder(t *testing.T) {
	waiting := 0
	for _, row := range profileTable {
		for _, rest := range waitingTexts() {
			d := impl.Decoder{Profile: row.number, At: 20, State: row.start, Rest: rest}
			for _, d.Begun = range []bool{false, true} {
				if row.waitsByDocument(rest, d.Begun) {
					waiting++
					accept(t, d)
				} else {
					refuse(t, d)
				}
				if rest != "" {
					over := d
					over.Over = true
					refuse(t, over)
					over.Code = impl.ErrShort
					refuse(t, over)
				}
			}
			if t.Failed() {
				return
			}
		}
	}
	// before the Header 4 prefixes in kr and nothing in the others, and behind it
	// ESC with up to two of 6 bytes or one of the longer tails
	if want := 4 + 4 + 5*(1+1+6+36+5); waiting != want {
		t.Errorf("%d decoders with waiting bytes are valid, want %d", waiting, want)
	}
}

func TestDecodersThatAreInvalid(t *testing.T) {
	for _, row := range profileTable {
		for _, good := range []impl.Decoder{row.newDecoder(), {Profile: row.number, At: 8, State: row.start, Begun: true}, ended(row.newDecoder(), impl.ErrEscape), ended(row.newDecoder(), impl.OK)} {
			accept(t, good)
			for _, n := range noProfiles {
				bad := good
				bad.Profile = n
				refuse(t, bad)
			}
			for _, at := range []int{0, 1, 4097, 65537, maxBytes - 1, maxBytes} {
				other := good
				other.At = at
				accept(t, other)
			}
			for _, at := range []int{math.MinInt, -maxBytes, -2, -1, maxBytes + 1, maxBytes + 2, 1 << 32, math.MaxInt - 1, math.MaxInt} {
				bad := good
				bad.At = at
				refuse(t, bad)
			}
			for _, code := range []int{math.MinInt, -19, -2, -1, impl.ErrSame + 1, impl.ErrSame + 2, 255, 256, 1 << 32, math.MaxInt} {
				bad := good
				bad.Code = code
				refuse(t, bad)
				bad.Over = true
				refuse(t, bad)
			}
			// a code without an end
			for code := impl.OK; code <= impl.ErrSame; code++ {
				other := good
				other.Code, other.Over = code, true
				accept(t, other)
				if other.Over = false; code != impl.OK {
					refuse(t, other)
				}
			}
			if t.Failed() {
				return
			}
		}
	}
	refuse(t, impl.Decoder{})
}

// Any integer in the State of a decoder: it is valid with the valid states, in
// every profile, also with those that the profile never reaches.
func TestStatesOfDecoders(t *testing.T) {
	for i, s := range changedStates() {
		d := impl.Decoder{Profile: 1 + i%impl.Profiles, At: 3, State: s, Begun: i%2 == 0}
		valid := validByDocument(s)
		for _, d := range []impl.Decoder{d, ended(d, impl.ErrBad), ended(d, impl.OK)} {
			if impl.DecoderOK(d) != valid {
				t.Errorf("DecoderOK(%+v) = %v", d, !valid)
			}
			if !valid {
				checkWrite(t, d, "A", impl.Decoder{}, impl.ErrBad)
				checkEnd(t, d, impl.Decoder{}, impl.ErrBad)
			}
		}
		if t.Failed() {
			return
		}
	}
	for s := range eachState {
		if d := (impl.Decoder{Profile: impl.PrJp, State: s}); !impl.DecoderOK(d) {
			t.Errorf("DecoderOK(%+v) = false", d)
		}
	}
}

// Where several codes apply, in each function.
func TestOrderOfTheCodesOfPieces(t *testing.T) {
	long := strings.Repeat("\xff", impl.MaxText+1)
	// ErrLong, ErrBad, the code of a decoder that is over, ErrFull, ErrHeader
	bad := impl.Decoder{Profile: impl.PrKr, At: maxBytes + 1, Code: impl.ErrEscape, State: impl.State{G0: 1}, Over: true}
	checkWrite(t, bad, long, impl.Decoder{}, impl.ErrLong)
	checkWrite(t, bad, "A", impl.Decoder{}, impl.ErrBad)
	checkEnd(t, bad, impl.Decoder{}, impl.ErrBad)
	over := bad
	over.At = maxBytes
	checkWrite(t, over, long, impl.Decoder{}, impl.ErrLong)
	checkWrite(t, over, "A", over, impl.ErrEscape)
	checkEnd(t, over, over, impl.ErrEscape)
	over.Code = impl.OK
	checkWrite(t, over, "A", over, impl.ErrState)
	checkEnd(t, over, over, impl.ErrState)
	full := over
	full.Over = false
	checkWrite(t, full, long, impl.Decoder{}, impl.ErrLong)
	checkWrite(t, full, "A", full, impl.ErrFull)
	checkEnd(t, full, ended(full, impl.ErrHeader), impl.ErrHeader)
	full.At--
	checkWrite(t, full, "\x80", ended(full, impl.ErrHeader), impl.ErrHeader)
	// DecodePieces: ErrLong, ErrNone, ErrSize, and then the codes of the decoder
	many := slices.Repeat([]string{"\x80"}, impl.MaxList+1)
	for _, n := range append([]int{1, 3, 5}, noProfiles...) {
		checkPieces(t, n, many, 0, impl.ErrLong)
		checkPieces(t, n, slices.Repeat([]string{""}, impl.MaxList+1), 0, impl.ErrLong)
	}
	for _, n := range noProfiles {
		checkPieces(t, n, many[:impl.MaxList], 0, impl.ErrNone)
		checkPieces(t, n, []string{long}, 0, impl.ErrNone)
		checkPieces(t, n, nil, 0, impl.ErrNone)
	}
	for n := 1; n <= impl.Profiles; n++ {
		checkPieces(t, n, append(many[:impl.MaxList-1:impl.MaxList-1], "\x80\x80"), 0, impl.ErrSize)
		checkPieces(t, n, []string{long}, 0, impl.ErrSize)
		checkPieces(t, n, []string{"\x80", long, long}, 0, impl.ErrSize)
	}
}

// MaxList bytes together, and one more, in pieces of several lengths.
func TestPiecesOfMaxListBytes(t *testing.T) {
	for _, row := range profileTable {
		text := row.header + strings.Repeat("a", impl.MaxList-len(row.header))
		chars := slices.Repeat([]int{97}, impl.MaxList-len(row.header))
		for _, length := range []int{1, 2, 3, 1000, impl.MaxList - 1, impl.MaxList} {
			var pieces []string
			for rest := text; rest != ""; {
				end := min(length, len(rest))
				pieces = append(pieces, rest[:end])
				rest = rest[end:]
			}
			checkPieces(t, row.number, pieces, impl.MaxList, impl.OK, chars...)
			last := len(pieces) - 1
			pieces[last] += "a"
			checkPieces(t, row.number, pieces, 0, impl.ErrSize)
			pieces[last] = strings.Repeat("\x1b", len(pieces[last])-1)
			if last > 0 && len(pieces[last]) > 1 {
				checkPieces(t, row.number, pieces, impl.MaxList-len(pieces[last]), impl.ErrEscape, chars[:len(chars)-len(pieces[last])]...)
			}
		}
		checkPieces(t, row.number, append(slices.Repeat([]string{""}, impl.MaxList-1), text), impl.MaxList, impl.OK, chars...)
		checkPieces(t, row.number, append(slices.Repeat([]string{""}, impl.MaxList), text), 0, impl.ErrLong)
	}
	checkPieces(t, impl.PrJp, slices.Repeat([]string{""}, impl.MaxList), 0, impl.OK)
	checkPieces(t, impl.PrKr, slices.Repeat([]string{""}, impl.MaxList), 0, impl.ErrHeader)
}

// P1: neither the pieces nor the unused capacity behind them change, and what a
// caller changes is in no other result.
func TestDecodePiecesKeepsItsArgument(t *testing.T) {
	for _, list := range [][]string{{"A\x1b", "$B$", "\"\x1b(B", "\n"}, {"A\x1b", "$B$", "\"\x1b(B\n\x80", "B"}} {
		want, at, code := impl.DecodePieces(impl.PrJp, list)
		if !slices.Equal(want, []int{65, 12354, 10}) {
			t.Error("DecodePieces", want)
		}
		want = slices.Clone(want)
		whole := append(slices.Clone(list), "x", "y")
		one, _, _ := impl.DecodePieces(impl.PrJp, whole[:len(list)])
		if !slices.Equal(whole, append(slices.Clone(list), "x", "y")) {
			t.Error("DecodePieces changed its argument", whole)
		}
		spoil(one)
		checkPieces(t, impl.PrJp, list, at, code, want...)
		changed := slices.Clone(list)
		two, _, _ := impl.DecodePieces(impl.PrJp, changed)
		for i := range changed {
			changed[i] = "\x80"
		}
		if !slices.Equal(two, want) {
			t.Error("a result changed with its argument", two)
		}
		checkPieces(t, impl.PrJp, changed, 0, impl.ErrForbidden)
		checkPieces(t, impl.PrJp, list, at, code, want...)
	}
}

func TestWritePieceReturnsNewMemory(t *testing.T) {
	d := impl.Decoder{Profile: impl.PrJp, State: impl.State{G0: 1}, Begun: true}
	for _, piece := range []string{"ABC", "ABC\x80"} {
		_, one, _ := impl.WritePiece(d, piece)
		_, two, _ := impl.WritePiece(d, piece)
		spoil(one)
		_, three, _ := impl.WritePiece(d, piece)
		if want := []int{65, 66, 67}; !slices.Equal(two, want) || !slices.Equal(three, want) {
			t.Error("the results of WritePiece share memory", two, three)
		}
	}
}

// The waiting bytes are no part of the piece, which they would keep.
func TestWaitingBytesAreNewMemory(t *testing.T) {
	d := impl.Decoder{Profile: impl.PrKr, State: impl.State{G0: 1}}
	for _, piece := range []string{"\x1b", "\x1b$)", "\x1b$)CA\x1b", "\x1b$)C\x1b$("} {
		next, _, _ := impl.WritePiece(d, piece)
		if next.Rest == "" || isPartOf(piece, next.Rest) {
			t.Errorf("WritePiece of %q keeps a part of it, or nothing: %q", piece, next.Rest)
		}
	}
}

// isPartOf reports whether a string lies in the memory of a piece.
func isPartOf(piece, t string) bool {
	from := uintptr(unsafe.Pointer(unsafe.StringData(piece)))
	at := uintptr(unsafe.Pointer(unsafe.StringData(t)))
	return at >= from && at < from+uintptr(len(piece))
}

// Rule 6 of ../shared/LANGUAGE.md: when a call has returned, none of its
// goroutines is left, whether all pieces were read or not.
func TestNoGoroutineIsLeft(t *testing.T) {
	before := runtime.NumGoroutine()
	for range 200 {
		impl.DecodePieces(impl.PrJp, []string{"A", "\x80", "B", "C"})
		impl.DecodePieces(impl.PrJp, []string{"A", "\x1b", "(B"})
		impl.DecodePieces(impl.PrKr, []string{"A"})
		impl.DecodePieces(impl.PrKr, nil)
		impl.DecodePieces(0, []string{"A"})
	}
	for range 100 {
		if runtime.NumGoroutine() <= before {
			return
		}
		time.Sleep(10 * time.Millisecond)
	}
	t.Errorf("%d goroutines, %d before", runtime.NumGoroutine(), before)
}
