package tests

import (
	"math/rand"
	"slices"
	"strings"
	"testing"

	"loop.example/g00748/impl"
)

// checkRun checks all results of a run.
func checkRun(t *testing.T, s impl.State, text string, want impl.State, at, code int, chars ...int) {
	t.Helper()
	got, list, offset, c := impl.RunState(s, text)
	if got != want || offset != at || c != code || !slices.Equal(list, chars) {
		t.Errorf("RunState(%v, %.40q) = %v, %v, %d, %d, want %v, %v, %d, %d", s, text, got, list, offset, c, want, chars, at, code)
	}
}

func TestRunsOverSeveralTokens(t *testing.T) {
	s := impl.StartState()
	checkRun(t, s, "", s, 0, impl.OK)
	checkRun(t, s, "A z\r\n\x00\x7f", s, 7, impl.OK, 65, 32, 122, 13, 10, 0, 127)
	checkRun(t, s, "\x1b$B$\"0!\x1b(J\\\x1b(B\\", s, 15, impl.OK, 12354, 19968, 165, 92)
	checkRun(t, s, "\x1b$)C\x0e0! \n\x0f ", impl.State{G0: 1, G1: 7}, 11, impl.OK, 44032, 32, 10, 32)
	checkRun(t, s, "\x1b-F\x1b$*A\xc1\x1bN0!\x8e\xb0\xa2\xa0A", impl.State{G0: 1, G1: 5, G2: 8}, 17, impl.OK, 913, 19998, 19999, 160, 65)
	checkRun(t, s, "\x1b/A\x8f \x1bO\xe9\x1bo \x0fi", impl.State{G0: 1, G3: 4}, 13, impl.OK, 160, 233, 160, 105)
	checkRun(t, impl.State{G0: 6, Lead: 36}, "\"$", impl.State{G0: 6, Lead: 36}, 2, impl.OK, 12354)
	checkRun(t, impl.State{G0: 1, G2: 4, Single: 2}, " i", impl.State{G0: 1, G2: 4}, 2, impl.OK, 160, 105)
}

// The state and the characters before the token with a code, and its offset.
func TestRunsUpToACode(t *testing.T) {
	s := impl.StartState()
	kanji, korean := impl.State{G0: 6}, impl.State{G0: 1, G1: 7}
	lead := func(x impl.State, b int) impl.State { x.Lead = b; return x }
	checkRun(t, s, "ab\x1b", s, 2, impl.ErrShort, 97, 98)
	checkRun(t, s, "ab\x1b$(\x80", s, 2, impl.ErrEscape, 97, 98)
	checkRun(t, s, "a\x9fb", s, 1, impl.ErrEscape, 97)
	checkRun(t, s, "a\x1b$Bb\x1b(Bc", lead(kanji, 98), 5, impl.ErrShort, 97)
	checkRun(t, s, "a\x1b$B$\"$\nc", lead(kanji, 36), 7, impl.ErrShort, 97, 12354)
	checkRun(t, s, "\x1b$B$\"\x21\x21", lead(kanji, 33), 6, impl.ErrUnmapped, 12354)
	checkRun(t, s, "\x1b$B\x1b$)C\xb0\xa1\xb0!", impl.State{G0: 6, G1: 7, Lead: 176}, 10, impl.ErrShort, 44032)
	checkRun(t, s, "\x1b$)C\xb0\xa1\xb0\x0e", lead(korean, 176), 7, impl.ErrShort, 44032)
	checkRun(t, s, "\x1b$)C\xb0\xa1\xb0\xff", lead(korean, 176), 7, impl.ErrUnmapped, 44032)
	checkRun(t, s, "a\x1bN\x1bNb", impl.State{G0: 1, Single: 2}, 3, impl.ErrShort, 97)
	checkRun(t, s, "a\x1bO b", impl.State{G0: 1, Single: 3}, 3, impl.ErrShort, 97)
	checkRun(t, s, "a\x1bO\xc1", impl.State{G0: 1, Single: 3}, 3, impl.ErrState, 97)
	checkRun(t, s, "a\x1bnb", impl.State{G0: 1, Left: 2}, 3, impl.ErrState, 97)
	checkRun(t, s, "a\x1b)I\xa1\xe0b", impl.State{G0: 1, G1: 3}, 5, impl.ErrUnmapped, 97, 65377)
	checkRun(t, s, "\x1b$)C\x1b(Z\x0e", korean, 4, impl.ErrEscape)
	// the two forms of a single shift, and a designation behind it
	checkRun(t, s, "\x1b.A\x8ei\x8e\x1b.F", impl.State{G0: 1, G2: 4, Single: 2}, 6, impl.ErrShort, 233)
	checkRun(t, impl.State{G0: 6, Lead: 36}, "\x1b(B", impl.State{G0: 6, Lead: 36}, 0, impl.ErrShort)
	checkRun(t, impl.State{G0: 6, Lead: 36}, "\x80", impl.State{G0: 6, Lead: 36}, 0, impl.ErrShort)
	checkRun(t, impl.State{G0: 6, Lead: 36}, "\x1b(Z", impl.State{G0: 6, Lead: 36}, 0, impl.ErrShort)
	checkRun(t, impl.State{G0: 6, Lead: 36}, "\x1bZ", impl.State{G0: 6, Lead: 36}, 0, impl.ErrShort)
}

func TestAnEmptyRunChangesNothing(t *testing.T) {
	for s := range eachState {
		checkRun(t, s, "", s, 0, impl.OK)
	}
}

// A run is not limited to MaxList tokens or characters, but to MaxText bytes.
func TestLongRuns(t *testing.T) {
	s := impl.StartState()
	for _, n := range []int{impl.MaxList, impl.MaxList + 1, impl.MaxText - 1} {
		checkRun(t, s, strings.Repeat("a", n), s, n, impl.OK, slices.Repeat([]int{97}, n)...)
		checkRun(t, s, strings.Repeat("a", n)+"\x80", s, n, impl.ErrEscape, slices.Repeat([]int{97}, n)...)
		checkRun(t, s, strings.Repeat("\n", n)+"\x1b", s, n, impl.ErrShort, slices.Repeat([]int{10}, n)...)
		checkRun(t, s, strings.Repeat("\x0e", n), impl.State{G0: 1, Left: 1}, n, impl.OK)
	}
	checkRun(t, s, strings.Repeat("a", impl.MaxText), s, impl.MaxText, impl.OK, slices.Repeat([]int{97}, impl.MaxText)...)
	checkRun(t, s, strings.Repeat("\x1b$B$\"\x1b(B", impl.MaxText/8), s, impl.MaxText, impl.OK, slices.Repeat([]int{12354}, impl.MaxText/8)...)
	checkRun(t, s, strings.Repeat("\x1b$(B", impl.MaxText/4), impl.State{G0: 6}, impl.MaxText, impl.OK)
	for _, text := range []string{strings.Repeat("a", impl.MaxText+1), strings.Repeat("\x80", impl.MaxText+1), strings.Repeat("\x1b$(B", impl.MaxText)} {
		for _, from := range append(smallStates(), impl.State{}, impl.State{G0: 4}, impl.State{G0: 1, Lead: 36}) {
			checkRun(t, from, text, impl.State{}, 0, impl.ErrLong)
		}
	}
}

// checkRunBySteps compares a run with its steps, one token after the other.
func checkRunBySteps(t *testing.T, s impl.State, text string) {
	t.Helper()
	var list []int
	at, now, code := 0, s, impl.OK
	for at < len(text) && code == impl.OK {
		x, _ := impl.NextToken(text, at)
		before := now
		var r int
		var made bool
		now, r, made, code = impl.StepState(before, x)
		if made {
			list = append(list, r)
		}
		if code == impl.OK {
			at += x.Len
		} else if now != before || made || r != 0 {
			t.Errorf("StepState(%v, %v) = %v, %d, %v, %d", before, x, now, r, made, code)
		}
	}
	checkRun(t, s, text, now, at, code, list...)
	checkRunInTwo(t, s, text, at/2)
	checkRunInTwo(t, s, text, at)
}

// checkRunInTwo compares a run with two that end and begin where the first
// token from an offset on begins; before it there is no token with a code.
func checkRunInTwo(t *testing.T, s impl.State, text string, from int) {
	t.Helper()
	cut := 0
	for cut < from {
		x, _ := impl.NextToken(text, cut)
		cut += x.Len
	}
	now, list, at, code := impl.RunState(s, text[:cut])
	if at != cut || code != impl.OK {
		t.Errorf("RunState(%v, %q) = %d, %d", s, text[:cut], at, code)
	}
	after, more, at, code := impl.RunState(now, text[cut:])
	checkRun(t, s, text, after, cut+at, code, append(list, more...)...)
}

// P5: a run equals its steps.
func TestRunsEqualTheirSteps(t *testing.T) {
	source := rand.New(rand.NewSource(4))
	parts := []string{"A", " ", "\n", "0!", "$\"", "\xb0\xa1", "\xa4\xa2", "\xa0", "\xff", "\xc1", "\x0e", "\x0f", "\x1bn", "\x1bo", "\x1bN", "\x8e", "\x1bO", "\x8f", "\x1bN ", "\x8f\xc1", "!", "\xa1"}
	for _, row := range escapeTable {
		for _, escape := range row {
			if escape != "" {
				parts = append(parts, escape)
			}
		}
	}
	rare := []string{"\x1b", "\x1b(", "\x80", "\x1bZ", "\x1b(Z", "\x1b((((", "\xfe", "~", "\x1b$)"}
	states := slices.Collect(eachState)
	for range 100000 {
		var text strings.Builder
		for range source.Intn(24) {
			if source.Intn(40) == 0 {
				text.WriteString(rare[source.Intn(len(rare))])
			} else {
				text.WriteString(parts[source.Intn(len(parts))])
			}
		}
		s := impl.StartState()
		if source.Intn(2) == 0 {
			s = states[source.Intn(len(states))]
		}
		checkRunBySteps(t, s, text.String())
		if t.Failed() {
			return
		}
	}
}

func TestRunsOfEveryShortString(t *testing.T) {
	for _, s := range smallStates() {
		for a := range 256 {
			checkRunBySteps(t, s, string([]byte{byte(a)}))
			for b := range 256 {
				checkRunBySteps(t, s, string([]byte{byte(a), byte(b)}))
			}
		}
	}
}

// codeBytes returns the bytes of a code, in a half.
func codeBytes(kind, code, half int) string {
	if kind == impl.KindPair {
		return string([]byte{byte(code/256 + half), byte(code%256 + half)})
	}
	return string([]byte{byte(code + half)})
}

// lockingShifts and singleShifts list the shifts by the register to which they refer.
var (
	lockingShifts = [4][]string{{"\x0f"}, {"\x0e"}, {"\x1bn"}, {"\x1bo"}}
	singleShifts  = [4][]string{2: {"\x1bN", "\x8e"}, 3: {"\x1bO", "\x8f"}}
)

// P8, as far as chapter 5 goes: behind the designation of its set to a register
// and a shift that refers to it, a code runs to its character.
func TestEveryCodeInEveryRegister(t *testing.T) {
	for _, row := range setTable {
		for register, escape := range escapeTable[row.number] {
			if escape == "" {
				continue
			}
			named := impl.StartState()
			*field(&named, register) = row.number
			for code, r := range row.characters() {
				checkCodeInRegister(t, row.kind, escape, register, named, code, r)
			}
		}
	}
}

func checkCodeInRegister(t *testing.T, kind int, escape string, register int, named impl.State, code, r int) {
	t.Helper()
	check := func(shift, bytes string, after impl.State) {
		t.Helper()
		text := escape + shift + bytes
		checkRun(t, impl.StartState(), text, after, len(text), impl.OK, r)
		// the order of the designation and a locking shift does not matter
		if after.Left != 0 {
			text = shift + escape + bytes
			checkRun(t, impl.StartState(), text, after, len(text), impl.OK, r)
		}
	}
	shifted := named
	shifted.Left = register
	left, right := codeBytes(kind, code, 0), codeBytes(kind, code, 128)
	// the byte 127 of the left half is a control
	if code != 127 {
		for _, shift := range lockingShifts[register] {
			check(shift, left, shifted)
		}
		for _, shift := range singleShifts[register] {
			check(shift, left, named)
		}
	}
	if register == 1 {
		check("", right, named)
	}
	for _, shift := range singleShifts[register] {
		check(shift, right, named)
	}
}

// Codes without a character run to none, in every register.
func TestEveryOtherCodeInEveryRegister(t *testing.T) {
	for _, row := range setTable {
		chars := row.characters()
		for register, escape := range escapeTable[row.number] {
			if escape == "" {
				continue
			}
			after := impl.StartState()
			*field(&after, register), after.Left = row.number, register
			for code := range 1 << 15 {
				if _, ok := chars[code]; ok || !impl.CodeOK(row.number, code) || code == 127 {
					continue
				}
				text := escape + lockingShifts[register][0] + codeBytes(row.kind, code, 0)
				if row.kind == impl.KindPair {
					after.Lead = code / 256
				}
				checkRun(t, impl.StartState(), text, after, len(text)-1, impl.ErrUnmapped)
			}
		}
	}
}
