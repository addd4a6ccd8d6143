package tests

import (
	"math/rand"
	"slices"
	"strings"
	"testing"

	"loop.example/g00748/impl"
)

func checkProfileStep(t *testing.T, n int, s impl.State, x impl.Token, want outcome) {
	t.Helper()
	var got outcome
	got.state, got.r, got.made, got.code = impl.StepProfile(n, s, x)
	if got != want {
		t.Errorf("StepProfile(%d, %v, %v) = %v, want %v", n, s, x, got, want)
	}
}

// profileFails checks a step with a code, which changes nothing.
func profileFails(t *testing.T, n int, s impl.State, x impl.Token, code int) {
	t.Helper()
	checkProfileStep(t, n, s, x, outcome{state: s, code: code})
}

// stepByDocument is the last paragraph of chapter 6, for a valid state and token.
func (row profileRow) stepByDocument(chars *characters, s impl.State, x impl.Token) outcome {
	fault := func(code int) outcome { return outcome{state: s, code: code} }
	if x.Kind == impl.TkTail {
		return fault(impl.ErrShort)
	}
	if x.Kind == impl.TkOther || x.Kind == impl.TkName && setOfName(x) == 0 {
		return fault(impl.ErrEscape)
	}
	if !row.allowsByDocument(x) {
		return fault(impl.ErrForbidden)
	}
	after := stepByDocument(chars, s, x)
	if after.code == impl.OK && after.made && after.r == 10 {
		next, code := row.nextByDocument(s)
		if code != impl.OK {
			return fault(code)
		}
		after.state = next
	}
	return after
}

// P6, for every kind of token in many states of every profile.
func TestStepsInProfilesAreThoseOfTheDocument(t *testing.T) {
	chars, tokens := charactersOfSets(), tokensOfEveryKind()
	eachProfile(t, func(t *testing.T, row profileRow) {
		for s := range eachState {
			for _, x := range tokens {
				checkProfileStep(t, row.number, s, x, row.stepByDocument(&chars, s, x))
			}
			if t.Failed() {
				return
			}
		}
	})
}

// Every valid token, with the sets that do not exist among them.
func TestStepsOfEveryTokenInEveryProfile(t *testing.T) {
	chars, shapes := charactersOfSets(), tokenShapes()
	eachProfile(t, func(t *testing.T, row profileRow) {
		for _, s := range append(smallStates(), row.start) {
			for x := range shapes {
				checkProfileStep(t, row.number, s, x, row.stepByDocument(&chars, s, x))
			}
		}
	})
}

// profileRun processes the tokens of a text up to the first one with a code.
func profileRun(n int, s impl.State, text string) (impl.State, []int, int, int) {
	var list []int
	for at := 0; at < len(text); {
		x, _ := impl.NextToken(text, at)
		next, r, made, code := impl.StepProfile(n, s, x)
		if code != impl.OK {
			return next, list, at, code
		}
		if made {
			list = append(list, r)
		}
		s = next
		at += x.Len
	}
	return s, list, len(text), impl.OK
}

func checkProfileRun(t *testing.T, n int, s impl.State, text string, want impl.State, at, code int, chars ...int) {
	t.Helper()
	got, list, offset, c := profileRun(n, s, text)
	if got != want || offset != at || c != code || !slices.Equal(list, chars) {
		t.Errorf("the steps of %d from %v over %q: %v, %v, %d, %d, want %v, %v, %d, %d", n, s, text, got, list, offset, c, want, chars, at, code)
	}
}

// P6: lines with designations, shifts and single shifts.
func TestStepsOverLines(t *testing.T) {
	start := impl.State{G0: 1}
	for _, v := range []struct {
		n     int
		text  string
		after impl.State
		chars []int
	}{
		{impl.PrJp, "A z\r\n\x00\x7f", start, []int{65, 32, 122, 13, 10, 0, 127}},
		{impl.PrJp, "\x1b$B$\"0!\x1b(J\\\x1b(B\\\nA\n", start, []int{12354, 19968, 165, 92, 10, 65, 10}},
		{impl.PrJp, "\x1b$(B$\" \t", impl.State{G0: 6}, []int{12354, 32, 9}},
		{impl.PrJp2, "\x1b.A\x1bNi\x1bN i\nA", start, []int{233, 160, 105, 10, 65}},
		{impl.PrJp2, "\x1b.F\x1b$A0!\x1bNA0!\x1b$(C0!\x1b(B\n\x1b.F", impl.State{G0: 1, G2: 5}, []int{19998, 913, 19998, 44032, 10}},
		{impl.PrKr, "\x1b$)C\x0e0!\x0fA\n\x0e0!\x0f\n", impl.State{G0: 1, G1: 7}, []int{44032, 65, 10, 44032, 10}},
		{impl.PrKr, "\x1b(B\x1b$)C\x0e \x0f\n", impl.State{G0: 1, G1: 7}, []int{32, 10}},
		{impl.PrCn, "\x1b$)A\x0e0!\x1b$)C0!\x0f\x1b*I\x1bN!\x1b$*B\x1bN0!A\n", start, []int{19998, 44032, 65377, 19968, 65, 10}},
		{impl.PrCn, "\x0e\x0f\n\x1b$)C\x0e0!", impl.State{G0: 1, G1: 7, Left: 1}, []int{10, 44032}},
		{impl.PrCt, "\xe9\n\xe9\x1b$B$\"\n$\"", impl.State{G0: 6, G1: 4}, []int{233, 10, 233, 12354, 10, 12354}},
		{impl.PrCt, "\x1b)I\xa1\x1b-F\xc1\x1b$)C\xb0\xa1\n\xb0\xa1\x1b(J\\\n\\", impl.State{G0: 2, G1: 7}, []int{65377, 913, 44032, 10, 44032, 165, 10, 165}},
	} {
		s, _ := impl.StartOf(v.n)
		checkProfileRun(t, v.n, s, v.text, v.after, len(v.text), impl.OK, v.chars...)
	}
}

// The step behind a line end sees the state of LineEnd: what Clear has removed
// must be designated again.
func TestStepsBehindALineEnd(t *testing.T) {
	start := impl.State{G0: 1}
	waits := impl.State{G0: 1, Single: 2}
	checkProfileRun(t, impl.PrJp2, start, "\x1b.A\n\x1bNi", waits, 6, impl.ErrState, 10)
	checkProfileRun(t, impl.PrCn, start, "\x1b*I\n\x1bN!", waits, 6, impl.ErrState, 10)
	checkProfileRun(t, impl.PrCn, start, "\x1b$)A\n\x0e0!", impl.State{G0: 1, Left: 1}, 6, impl.ErrState, 10)
	checkProfileRun(t, impl.PrKr, start, "\x1b$)C\n\x0e0!", impl.State{G0: 1, G1: 7, Left: 1}, 8, impl.OK, 10, 44032)
	checkProfileRun(t, impl.PrCt, start, "\x1b-F\n\xc1", impl.State{G0: 1, G1: 5}, 5, impl.OK, 10, 913)
	// only the control character 10 ends a line
	for _, control := range []int{0, 9, 11, 13, 30, 127} {
		s := impl.State{G0: 1, G2: 4}
		checkProfileStep(t, impl.PrJp2, s, controlToken(control), outcome{s, control, true, impl.OK})
		s = impl.State{G0: 6}
		checkProfileStep(t, impl.PrJp, s, controlToken(control), outcome{s, control, true, impl.OK})
	}
}

func TestLineEndsInAndOutOfRest(t *testing.T) {
	line := controlToken(10)
	for _, v := range []struct {
		s, clear impl.State
		codes    [5]int
	}{
		{impl.State{G0: 1}, impl.State{G0: 1}, [5]int{}},
		{impl.State{G0: 1, G1: 7, G2: 4, G3: 3}, impl.State{G0: 1}, [5]int{}},
		{impl.State{G0: 2}, impl.State{}, [5]int{14, 14, 14, 14, 0}},
		{impl.State{G0: 6, G1: 4}, impl.State{}, [5]int{14, 14, 14, 14, 0}},
		{impl.State{G0: 1, G1: 7, Left: 1}, impl.State{}, [5]int{14, 14, 14, 14, 0}},
		{impl.State{G0: 1, Left: 3}, impl.State{}, [5]int{14, 14, 14, 14, 0}},
		// the code of the step comes before ErrReset
		{impl.State{G0: 6, Lead: 36}, impl.State{}, [5]int{13, 13, 13, 13, 13}},
		{impl.State{G0: 1, G1: 7, Lead: 176}, impl.State{}, [5]int{13, 13, 13, 13, 13}},
		{impl.State{G0: 1, G2: 4, Single: 2}, impl.State{}, [5]int{13, 13, 13, 13, 13}},
		{impl.State{G0: 2, Left: 1, Single: 3}, impl.State{}, [5]int{13, 13, 13, 13, 13}},
	} {
		for i, row := range profileTable {
			switch {
			case v.codes[i] != impl.OK:
				profileFails(t, row.number, v.s, line, v.codes[i])
			case row.clear:
				checkProfileStep(t, row.number, v.s, line, outcome{v.clear, 10, true, impl.OK})
			default:
				checkProfileStep(t, row.number, v.s, line, outcome{v.s, 10, true, impl.OK})
			}
		}
	}
}

// Where several codes apply, the first one of the paragraph on StepProfile.
func TestOrderOfTheCodesOfAStep(t *testing.T) {
	rest := impl.State{G0: 1}
	lead := impl.State{G0: 6, G1: 6, Lead: 36}
	single := impl.State{G0: 1, Single: 2}
	for _, row := range profileTable {
		n := row.number
		for _, s := range []impl.State{rest, lead, single} {
			// ErrEscape comes before ErrForbidden, and both before a pending state's ErrShort
			profileFails(t, n, s, tailToken, impl.ErrShort)
			profileFails(t, n, s, otherToken, impl.ErrEscape)
			profileFails(t, n, s, nameToken(0, 1, 81), impl.ErrEscape)
			profileFails(t, n, s, nameToken(3, 3, 68), impl.ErrEscape)
			profileFails(t, n, s, nameToken(3, 1, 66), impl.ErrForbidden)
			profileFails(t, n, s, controlToken(128), impl.ErrForbidden)
			profileFails(t, n, s, shiftToken(2), impl.ErrForbidden)
			profileFails(t, n, s, singleToken(3), impl.ErrForbidden)
			profileFails(t, n, s, newToken(impl.TkSingle, 2, 0, 0, 0, 1), impl.ErrForbidden)
			// an allowed token has the code of the step
			allowed := impl.OK
			if isPending(s) {
				allowed = impl.ErrShort
			}
			checkProfileStep(t, n, s, nameToken(0, 1, 66), outcome{state: s, code: allowed})
		}
		if !row.right {
			// before ErrState of an empty register, ErrShort of the other half, and ErrUnmapped
			profileFails(t, n, rest, rightToken(65), impl.ErrForbidden)
			profileFails(t, n, lead, rightToken(65), impl.ErrForbidden)
			profileFails(t, n, impl.State{G0: 1, G1: 3}, rightToken(127), impl.ErrForbidden)
		}
		profileFails(t, n, impl.State{G0: 1, Left: 1}, leftToken(65), impl.ErrState)
		profileFails(t, n, single, leftToken(65), impl.ErrState)
		profileFails(t, n, lead, leftToken(116), impl.ErrUnmapped)
		profileFails(t, n, lead, spaceToken, impl.ErrShort)
		// ErrBad comes before all of them
		checkProfileStep(t, n, impl.State{}, tailToken, outcome{code: impl.ErrBad})
		checkProfileStep(t, n, impl.State{G0: 4}, nameToken(3, 1, 66), outcome{code: impl.ErrBad})
		checkProfileStep(t, n, rest, newToken(impl.TkTail, 0, 0, 0, 0, 0), outcome{code: impl.ErrBad})
		checkProfileStep(t, n, rest, newToken(impl.TkName, 0, 2, 65, 0, 3), outcome{code: impl.ErrBad})
	}
	profileFails(t, impl.PrCt, rest, rightToken(65), impl.ErrState)
	profileFails(t, impl.PrCt, lead, rightToken(65), impl.ErrShort)
	profileFails(t, impl.PrCt, impl.State{G0: 1, G1: 3}, rightToken(127), impl.ErrUnmapped)
	profileFails(t, impl.PrJp2, single, singleToken(2), impl.ErrShort)
	profileFails(t, impl.PrJp, single, singleToken(2), impl.ErrForbidden)
	profileFails(t, impl.PrKr, lead, shiftToken(1), impl.ErrShort)
	profileFails(t, impl.PrJp, lead, shiftToken(1), impl.ErrForbidden)
	profileFails(t, impl.PrJp2, lead, nameToken(0, 3, 65), impl.ErrShort)
	profileFails(t, impl.PrJp, lead, nameToken(0, 3, 65), impl.ErrForbidden)
}

// stays reports whether a state holds nothing that a profile does not allow.
func (row profileRow) stays(s impl.State) bool {
	for register, set := range setsOf(s) {
		if set != setsOf(row.start)[register] && !slices.Contains(row.sets[register], set) {
			return false
		}
	}
	if s.Left != 0 && (!row.shifts || s.Left != 1) || s.Single != 0 && (!row.single || s.Single != 2) {
		return false
	}
	return s.Lead < 128 || row.right
}

// P6: all states that steps reach from the start of a profile are within what
// it allows, and every line begins in the documented state.
func TestStepsNeverLeaveTheirProfile(t *testing.T) {
	shapes := tokenShapes()
	eachProfile(t, func(t *testing.T, row profileRow) {
		var allowed []impl.Token
		for x := range shapes {
			if yes, _ := impl.AllowsToken(row.number, x); yes {
				allowed = append(allowed, x)
			}
		}
		allowed = slices.DeleteFunc(allowed, func(x impl.Token) bool { return x.Kind == impl.TkControl && x.A != 10 })
		reached := map[impl.State]bool{row.start: true}
		for work := []impl.State{row.start}; len(work) > 0 && !t.Failed(); work = work[1:] {
			for _, x := range allowed {
				next, r, _, code := impl.StepProfile(row.number, work[0], x)
				if !row.stays(next) || !impl.StateOK(next) {
					t.Errorf("StepProfile(%d, %v, %v) = %v", row.number, work[0], x, next)
				}
				if code == impl.OK && r == 10 && row.clear && next != row.start {
					t.Errorf("in %s a line begins behind %v with %v", row.name, work[0], next)
				}
				if !reached[next] {
					reached[next] = true
					work = append(work, next)
				}
			}
		}
		if len(reached) < 10 {
			t.Errorf("only %d states are reached in %s", len(reached), row.name)
		}
	})
}

// A step that a profile allows is StepState's, but for the control character 10.
func TestStepsInProfilesOverRandomTexts(t *testing.T) {
	parts := []string{"A", " ", "\n", "\n", "\r", "0!", "$\"", "\xb0\xa1", "\xe9", "\x0e", "\x0f", "\x1bN", "\x1bN!", "\x8e", "\x1bn", "\x80", "\x1bZ", "\x1b(Q", "\x1b$(B"}
	for _, escapes := range escapeTable {
		parts = append(parts, escapes[:3]...)
	}
	slices.Sort(parts)
	eachProfile(t, func(t *testing.T, row profileRow) {
		source := rand.New(rand.NewSource(int64(row.number)))
		for range 20000 {
			var text strings.Builder
			for range 1 + source.Intn(30) {
				text.WriteString(parts[source.Intn(len(parts))])
			}
			checkRandomText(t, row, text.String())
			if t.Failed() {
				return
			}
		}
	})
}

// checkRandomText leaves out the tokens with a code, so that the steps go on
// behind them.
func checkRandomText(t *testing.T, row profileRow, text string) {
	t.Helper()
	s := row.start
	for at := 0; at < len(text); {
		x, _ := impl.NextToken(text, at)
		at += x.Len
		next, r, made, code := impl.StepProfile(row.number, s, x)
		yes, _ := impl.AllowsToken(row.number, x)
		plain, plainR, plainMade, plainCode := impl.StepState(s, x)
		switch {
		case code != impl.OK && (next != s || made || r != 0):
			t.Errorf("%s, %q: the step of %v from %v with the code %d changes something: %v", row.name, text, x, s, code, next)
		case code == impl.OK && (!yes || plainCode != impl.OK || r != plainR || made != plainMade):
			t.Errorf("%s, %q: the step of %v from %v is not StepState's", row.name, text, x, s)
		case code == impl.OK && r == 10:
			if after, c := impl.LineEnd(row.number, s); next != after || c != impl.OK {
				t.Errorf("%s, %q: behind the line end in %v: %v, want %v, %d", row.name, text, s, next, after, c)
			}
		case code == impl.OK && next != plain:
			t.Errorf("%s, %q: the step of %v from %v leads to %v, want %v", row.name, text, x, s, next, plain)
		case code != impl.OK && yes && plainCode == impl.OK && (x.Kind != impl.TkControl || x.A != 10 || code != impl.ErrReset):
			t.Errorf("%s, %q: the step of %v from %v has the code %d", row.name, text, x, s, code)
		}
		s = next
	}
}
