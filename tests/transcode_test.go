package tests

import (
	"math/rand"
	"slices"
	"strings"
	"testing"

	"loop.example/g00748/impl"
)

// A changer checks chapter 12 for strings of one profile.
type changer struct {
	row    profileRow
	chars  characters
	all    codes
	source *rand.Rand
	// How many strings were valid, how many of them another profile could encode,
	// and how many it could not.
	valid, written, refused int
}

func (row profileRow) newChanger() *changer {
	return &changer{row: row, chars: charactersOfSets(), all: codesOfSets(), source: rand.New(rand.NewSource(int64(row.number)))}
}

// writtenByDocument is what chapter 12 makes of characters that were read; which
// string is the shortest is a matter of Encode.
func (row profileRow) writtenByDocument(all *codes, list []int) (string, int, int) {
	if len(list) > impl.MaxChars {
		return "", 0, impl.ErrMany
	}
	for at, r := range list {
		if !row.canByDocument(all, r) {
			return "", at, impl.ErrUnmapped
		}
	}
	text, _, _ := impl.Encode(row.number, list)
	return text, 0, impl.OK
}

// markedByDocument does the same with a mark, which EncodeLoose sets.
func (row profileRow) markedByDocument(all *codes, list []int, mark int) (string, int) {
	if mark < 0 || !row.canByDocument(all, mark) {
		return "", impl.ErrUnmapped
	}
	if len(list) > impl.MaxChars {
		return "", impl.ErrMany
	}
	text, _ := impl.EncodeLoose(row.number, list, mark)
	return text, impl.OK
}

// check checks all functions for one string, which may have any fault. It
// returns whether it is valid.
func (w *changer) check(t *testing.T, text string) bool {
	t.Helper()
	n := w.row.number
	list, at, code := w.row.decodeByDocument(&w.chars, text)
	checkDecode(t, n, text, at, code, list...)
	w.checkLoosely(t, text)
	if code != impl.OK {
		checkFaulty(t, n, text, at, code)
		return false
	}
	w.valid++
	checkToUtf(t, n, text, textOf(t, list), 0, impl.OK)
	if len(list) <= impl.MaxChars {
		w.checkValid(t, text, list)
		return true
	}
	for to := 1; to <= impl.Profiles; to++ {
		checkTranscode(t, n, to, text, "", 0, impl.ErrMany)
	}
	return true
}

// checkLoosely checks TranscodeLoose to one profile, with one mark.
func (w *changer) checkLoosely(t *testing.T, text string) {
	t.Helper()
	list := w.row.looseByDocument(&w.chars, text)
	checkLoose(t, w.row.number, text, list...)
	to := profileTable[w.source.Intn(impl.Profiles)]
	mark := []int{63, 63, 63, 10, 44032, 233, impl.Missing, -1}[w.source.Intn(8)]
	want, code := to.markedByDocument(&w.all, list, mark)
	checkTranscodeLoose(t, w.row.number, to.number, text, mark, want, code)
}

// checkValid checks P14, and the middle part of P10, for a valid string.
func (w *changer) checkValid(t *testing.T, text string, list []int) {
	t.Helper()
	n := w.row.number
	short := w.checkShortened(t, text, list)
	utf := textOf(t, list)
	for _, to := range profileTable {
		m := to.number
		want, at, code := to.writtenByDocument(&w.all, list)
		checkTranscode(t, n, m, text, want, at, code)
		checkFromUtf(t, m, utf, want, at, code)
		if n == impl.PrJp {
			// a string of jp means the same in jp2
			checkTranscode(t, impl.PrJp2, m, text, want, at, code)
		}
		if code != impl.OK {
			w.refused++
			w.checkThereAndBack(t, text, list, to)
			continue
		}
		w.written++
		checkDecode(t, m, want, len(want), impl.OK, list...)
		checkToUtf(t, m, want, utf, 0, impl.OK)
		checkTranscode(t, m, n, want, short, 0, impl.OK)
	}
	if n == impl.PrJp {
		checkDecode(t, impl.PrJp2, text, len(text), impl.OK, list...)
		checkToUtf(t, impl.PrJp2, text, utf, 0, impl.OK)
	}
}

// withMark puts a mark in place of characters that a profile cannot encode.
func (row profileRow) withMark(all *codes, list []int, mark int) []int {
	marked := slices.Clone(list)
	for i, r := range list {
		if !row.canByDocument(all, r) {
			marked[i] = mark
		}
	}
	return marked
}

// checkShortened checks that shortening a string leaves its characters, takes
// away what can be taken away, and does so at once.
func (w *changer) checkShortened(t *testing.T, text string, list []int) string {
	t.Helper()
	n := w.row.number
	short, at, code := impl.Shorten(n, text)
	if len(short) > len(text) || at != 0 || code != impl.OK {
		t.Errorf("Shorten(%d, %q) = %q, %d, %d", n, text, short, at, code)
	}
	if waste, c := impl.Wasted(n, text); waste != len(text)-len(short) || waste < 0 || c != impl.OK {
		t.Errorf("Wasted(%d, %q) = %d, %d, but it is %q", n, text, waste, c, short)
	}
	checkDecode(t, n, short, len(short), impl.OK, list...)
	checkTranscode(t, n, n, short, short, 0, impl.OK)
	if encoded, _, _ := impl.Encode(n, list); encoded != short {
		t.Errorf("Shorten(%d, %q) = %q, but Encode %q", n, text, short, encoded)
	}
	return short
}

// checkThereAndBack transcodes to another profile and back with a mark: what both
// profiles can encode stays at its index.
func (w *changer) checkThereAndBack(t *testing.T, text string, list []int, to profileRow) {
	t.Helper()
	n, m := w.row.number, to.number
	marked := to.withMark(&w.all, list, 63)
	there, code := impl.TranscodeLoose(n, m, text, 63)
	if code != impl.OK {
		t.Errorf("TranscodeLoose(%d, %d, %q, 63): %d", n, m, text, code)
	}
	checkDecode(t, m, there, len(there), impl.OK, marked...)
	back, at, code := impl.Transcode(m, n, there)
	if at != 0 || code != impl.OK {
		t.Errorf("Transcode(%d, %d, %q): %d, %d", m, n, there, at, code)
	}
	checkDecode(t, n, back, len(back), impl.OK, marked...)
	checkTranscodeLoose(t, m, n, there, 42, back, impl.OK)
}

// checkCounts makes sure that there was something to check.
func (w *changer) checkCounts(t *testing.T, valid, written, refused int) {
	t.Helper()
	if w.valid < valid || w.written < written || w.refused < refused {
		t.Errorf("%d valid strings of %s, transcoded %d times and refused %d times", w.valid, w.row.name, w.written, w.refused)
	}
}

// P14: the valid strings of every profile, read in each of them.
func TestTranscodingValidStrings(t *testing.T) {
	eachProfile(t, func(t *testing.T, row profileRow) {
		w := row.newChanger()
		for _, v := range validTexts {
			for _, behind := range []string{"", "A", "\n", "\x1b(B", "\x1b", "\x1b$B$\"", "\x80", "\xe9"} {
				if valid := w.check(t, v.text+behind); v.n == row.number && behind == "" && !valid {
					t.Errorf("%q is not valid in %s", v.text, row.name)
				}
			}
		}
		w.checkCounts(t, 8, 8, 2)
	})
}

// P10: shortening the encodings that Encode makes leaves them unchanged.
func TestTranscodingEncodings(t *testing.T) {
	eachProfile(t, func(t *testing.T, row profileRow) {
		w := row.newChanger()
		lists := row.characters(&w.all)
		for i := range 60 {
			list := randomList(w.source, lists, i+1)
			text, _, _ := impl.Encode(row.number, list)
			checkTranscode(t, row.number, row.number, text, text, 0, impl.OK)
			if !w.check(t, text) {
				t.Errorf("Encode(%d, %v) = %q is not valid", row.number, list, text)
			}
			if t.Failed() {
				return
			}
		}
		w.checkCounts(t, 60, 60, 20)
	})
}

// Every character behind another one, from a profile that can encode it and from
// UTF-8.
func TestTranscodingEveryCharacter(t *testing.T) {
	all, chars := codesOfSets(), charactersToTry()
	eachProfile(t, func(t *testing.T, row profileRow) {
		for i, r := range chars {
			list := []int{65, r}
			want, at, code := row.writtenByDocument(&all, list)
			checkFromUtf(t, row.number, textOf(t, list), want, at, code)
			from := 1 + i%impl.Profiles
			if text, _, c := impl.Encode(from, list); c == impl.OK {
				checkTranscode(t, from, row.number, text, want, at, code)
				checkToUtf(t, from, text, textOf(t, list), 0, impl.OK)
			}
			if t.Failed() {
				return
			}
		}
	})
}

func TestTranscodingRandomTokens(t *testing.T) {
	eachProfile(t, func(t *testing.T, row profileRow) {
		w := row.newChanger()
		parts := row.partsOf()
		for range 500 {
			w.check(t, row.randomText(w.source, parts))
			if t.Failed() {
				return
			}
		}
		w.checkCounts(t, 20, 20, 0)
	})
}

// Any bytes, those that matter more often than others, and all strings of two of
// these behind several starts.
func TestTranscodingRandomBytes(t *testing.T) {
	const often = "\x1b$()*+-. ABCFIJNO\n\x0e\x0f0!\"\xa1\xb0"
	const some = "\x1b$ AN\n\x0e\x0f0!\x80\xa1"
	eachProfile(t, func(t *testing.T, row profileRow) {
		w := row.newChanger()
		for i := range 200 {
			text := make([]byte, w.source.Intn(24))
			for k := range text {
				text[k] = byte(w.source.Intn(256))
				if i%3 != 0 {
					text[k] = often[w.source.Intn(len(often))]
				}
			}
			w.check(t, string(text))
			w.check(t, row.header+string(text))
		}
		for _, start := range []string{"", row.header, row.header + "\x1b$)C", row.header + "\x1b$B", row.header + "\x1b.F\x1bN"} {
			for a := range len(some) {
				for b := range len(some) {
					w.check(t, start+some[a:a+1]+some[b:b+1])
				}
			}
		}
	})
}

// Any bytes as UTF-8: characters of a profile, others, and what is none.
func TestEncodingRandomUtf(t *testing.T) {
	eachProfile(t, func(t *testing.T, row profileRow) {
		w := row.newChanger()
		lists, found := row.characters(&w.all), map[int]int{}
		for i := range 300 {
			list := randomList(w.source, lists, i%(impl.MaxChars+4))
			if i%2 == 0 {
				list = randomLoose(w.source, list)
			}
			text := []byte(textOf(t, list))
			if i%3 == 0 {
				for range 1 + w.source.Intn(3) {
					text = slices.Insert(text, w.source.Intn(len(text)+1), edgeBytes[w.source.Intn(len(edgeBytes))])
				}
			}
			if i%5 == 0 {
				text = text[:w.source.Intn(len(text)+1)]
			}
			found[w.checkUtf(t, string(text))]++
			if t.Failed() {
				return
			}
		}
		for _, code := range []int{impl.OK, impl.ErrShort, impl.ErrUtf, impl.ErrMany, impl.ErrUnmapped} {
			if found[code] < 5 {
				t.Errorf("FromUtf(%d) returned %d only %d times", row.number, code, found[code])
			}
		}
	})
}

// checkUtf checks FromUtf for any string, and returns its code.
func (w *changer) checkUtf(t *testing.T, text string) int {
	t.Helper()
	n := w.row.number
	list, at, code := runesByDocument(text)
	want := ""
	if code == impl.OK {
		want, at, code = w.row.writtenByDocument(&w.all, list)
	}
	checkFromUtf(t, n, text, want, at, code)
	// beside the functions that it applies
	runes, place, c := impl.RunesOf(text)
	encoded := ""
	if c == impl.OK {
		encoded, place, c = impl.Encode(n, runes)
	}
	checkFromUtf(t, n, text, encoded, place, c)
	if code == impl.OK {
		checkToUtf(t, n, want, text, 0, impl.OK)
	}
	return code
}

// idleTokens are tokens that change nothing in a state that is not pending: the
// designation of a set to a register that holds it, and shifts back and forth.
func (row profileRow) idleTokens(s impl.State) []string {
	var list []string
	for register, held := range setsOf(s) {
		if slices.Contains(row.sets[register], held) {
			list = append(list, escapeTable[held][register])
		}
	}
	texts, states := row.movesByDocument(s)
	for i, there := range texts {
		// a move there is followed by one back, if there is one
		backs, ends := row.movesByDocument(states[i])
		if k := slices.Index(ends, s); k >= 0 {
			list = append(list, there+backs[k])
		}
	}
	if row.shifts {
		list = append(list, string(rune(15-s.Left)))
	}
	return list
}

// padded lays idle tokens into a string that has no fault, wherever it is not
// pending.
func (w *changer) padded(text string) string {
	var padded strings.Builder
	s := w.row.start
	tokens, _ := impl.TokensOf(text)
	for _, x := range tokens {
		if x.At >= len(w.row.header) && !isPending(s) && w.source.Intn(3) == 0 {
			idle := w.row.idleTokens(s)
			padded.WriteString(idle[w.source.Intn(len(idle))])
		}
		padded.WriteString(text[x.At : x.At+x.Len])
		s = w.row.stepByDocument(&w.chars, s, x).state
	}
	return padded.String()
}

// Shorten takes away what was laid into a string that is the shortest, and
// Wasted says how much that was.
func TestShorteningPaddedStrings(t *testing.T) {
	eachProfile(t, func(t *testing.T, row profileRow) {
		w := row.newChanger()
		lists, longer := row.characters(&w.all), 0
		for i := range 100 {
			short, _, _ := impl.Encode(row.number, randomList(w.source, lists, i%(impl.MaxChars+1)))
			long := w.padded(short)
			longer += len(long) - len(short)
			checkTranscode(t, row.number, row.number, long, short, 0, impl.OK)
			if waste, code := impl.Wasted(row.number, long); waste != len(long)-len(short) || code != impl.OK {
				t.Errorf("Wasted(%d, %q) = %d, %d, want %d", row.number, long, waste, code, len(long)-len(short))
			}
			if i%10 == 0 {
				w.check(t, long)
			}
			if t.Failed() {
				return
			}
		}
		if longer < 500 {
			t.Errorf("only %d bytes in %s", longer, row.name)
		}
	})
}
