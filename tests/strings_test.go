package tests

import (
	"math/rand"
	"slices"
	"testing"

	"loop.example/g00748/impl"
)

// A reader checks P17 for strings of one profile.
type reader struct {
	row    profileRow
	chars  characters
	all    codes
	source *rand.Rand
	// How many strings were valid, and how many of their lists were encoded in
	// another profile.
	valid, others int
}

func (row profileRow) newReader() *reader {
	return &reader{row: row, chars: charactersOfSets(), all: codesOfSets(), source: rand.New(rand.NewSource(int64(row.number)))}
}

// check checks all of P17 for one string. It returns whether it is valid.
func (w *reader) check(t *testing.T, text string) bool {
	t.Helper()
	list, at, code := w.row.decodeByDocument(&w.chars, text)
	checkDecode(t, w.row.number, text, at, code, list...)
	w.checkPieces(t, text, at, code, list)
	w.checkBefore(t, text, at, list)
	if code == impl.OK && len(list) <= impl.MaxChars {
		w.valid++
		w.checkEncodings(t, text, list)
	}
	return code == impl.OK
}

func (w *reader) checkPieces(t *testing.T, text string, at, code int, list []int) {
	t.Helper()
	n := w.row.number
	checkPieces(t, n, []string{text}, at, code, list...)
	checkPieces(t, n, singleBytes(text, false), at, code, list...)
	checkPieces(t, n, singleBytes(text, true), at, code, list...)
	for place := range len(text) + 1 {
		checkPieces(t, n, cutAt(text, place), at, code, list...)
	}
	for range 3 {
		checkPieces(t, n, randomPieces(w.source, text, 1+w.source.Intn(6)), at, code, list...)
	}
}

// checkBefore checks that what stands before the first error has no error but
// at its own end.
func (w *reader) checkBefore(t *testing.T, text string, at int, list []int) {
	t.Helper()
	before, end, code := impl.Decode(w.row.number, text[:at])
	if end != at || !slices.Equal(before, list) || code != impl.OK && code != impl.ErrShort && code != impl.ErrReset && code != impl.ErrHeader {
		t.Errorf("Decode(%d, %q) = %v, %d, %d, but of %q %v", w.row.number, text[:at], before, end, code, text, list)
	}
}

// checkEncodings encodes the characters of a valid string in each profile that
// can encode them, and decodes them again. In its own profile, and in the best
// one, they have no more bytes than the string.
func (w *reader) checkEncodings(t *testing.T, text string, list []int) {
	t.Helper()
	for _, row := range profileTable {
		cannot := func(r int) bool { return !row.canByDocument(&w.all, r) }
		if at := slices.IndexFunc(list, cannot); at >= 0 {
			checkNotEncoded(t, row.number, list, at, impl.ErrUnmapped)
			if row.number == w.row.number {
				t.Errorf("%q is valid in %d, but it cannot encode %d", text, row.number, list[at])
			}
			continue
		}
		shortest, _, _ := impl.Encode(row.number, list)
		checkEncode(t, row.number, shortest, list...)
		checkPieces(t, row.number, randomPieces(w.source, shortest, 3), len(shortest), impl.OK, list...)
		if row.number != w.row.number {
			w.others++
		} else if len(shortest) > len(text) {
			t.Errorf("Encode(%d, %v) = %q, but %q is valid", row.number, list, shortest, text)
		}
		if profiles, _ := impl.Detect(shortest); !slices.Contains(profiles, row.number) {
			t.Errorf("Detect(%q) = %v, without %d", shortest, profiles, row.number)
		}
	}
	if best, cost, code := impl.BestFor(list); cost > len(text) || code != impl.OK {
		t.Errorf("BestFor(%v) = %d, %d, %d, but %q is valid in %d", list, best, cost, code, text, w.row.number)
	}
}

// checkCounts makes sure that there was something to check.
func (w *reader) checkCounts(t *testing.T, valid, others int) {
	t.Helper()
	if w.valid < valid || w.others < others {
		t.Errorf("%d valid strings of %s, %d of them in other profiles", w.valid, w.row.name, w.others)
	}
}

// P17: the valid strings of every profile, read in each of them.
func TestEveryStringThatSomeProfileDecodes(t *testing.T) {
	eachProfile(t, func(t *testing.T, row profileRow) {
		w := row.newReader()
		for _, v := range validTexts {
			for _, behind := range []string{"", "A", "\n", "\x1b(B", "\x1b", "\x1b$B$\"", "\x80", "\xe9"} {
				if valid := w.check(t, v.text+behind); v.n == row.number && behind == "" && !valid {
					t.Errorf("%q is not valid in %s", v.text, row.name)
				}
			}
		}
		w.checkCounts(t, 8, 8)
	})
}

func TestEveryStringOfRandomTokens(t *testing.T) {
	eachProfile(t, func(t *testing.T, row profileRow) {
		w := row.newReader()
		parts := row.partsOf()
		for range 800 {
			w.check(t, row.randomText(w.source, parts))
			if t.Failed() {
				return
			}
		}
		w.checkCounts(t, 30, 30)
	})
}

// Encodings, and strings that are those but for one token more.
func TestEveryStringAroundAnEncoding(t *testing.T) {
	eachProfile(t, func(t *testing.T, row profileRow) {
		w := row.newReader()
		lists, parts := row.characters(&w.all), row.partsOf()
		for i := range 40 {
			list := randomList(w.source, lists, i%30)
			text, _, _ := impl.Encode(row.number, list)
			if !w.check(t, text) {
				t.Errorf("Encode(%d, %v) = %q is not valid", row.number, list, text)
			}
			for range 3 {
				at := w.source.Intn(len(text) + 1)
				w.check(t, text[:at]+parts[w.source.Intn(len(parts))]+text[at:])
			}
			if t.Failed() {
				return
			}
		}
		w.checkCounts(t, 40, 20)
	})
}

// Any bytes, those that matter more often than others, and all strings of two of
// these behind several starts.
func TestEveryStringOfRandomBytes(t *testing.T) {
	const often = "\x1b$()*+-. ABCFIJNO\n\x0e\x0f0!\"\xa1\xb0"
	const some = "\x1b$ AN\n\x0e\x0f0!\x80\xa1"
	eachProfile(t, func(t *testing.T, row profileRow) {
		w := row.newReader()
		for i := range 300 {
			text := make([]byte, w.source.Intn(24))
			for k := range text {
				text[k] = byte(w.source.Intn(256))
				if i%3 != 0 {
					text[k] = often[w.source.Intn(len(often))]
				}
			}
			w.check(t, string(text))
			w.check(t, row.header+string(text))
		}
		for _, start := range []string{"", row.header, row.header + "\x1b$)C", row.header + "\x1b$B", row.header + "\x1b.F\x1bN"} {
			for a := range len(some) {
				for b := range len(some) {
					w.check(t, start+some[a:a+1]+some[b:b+1])
				}
			}
		}
		w.checkCounts(t, 50, 50)
	})
}
