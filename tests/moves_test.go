package tests

import (
	"math"
	"slices"
	"testing"

	"loop.example/g00748/impl"
)

// isWriting reports whether chapter 8 has moves and forms for a state.
func isWriting(s impl.State) bool {
	return validByDocument(s) && !isPending(s) && (s.Left == 0 || s.Left == 1)
}

func checkMoves(t *testing.T, n int, s impl.State, texts []string, states []impl.State, code int) {
	t.Helper()
	gotTexts, gotStates, c := impl.MovesOf(n, s)
	if !slices.Equal(gotTexts, texts) || !slices.Equal(gotStates, states) || c != code {
		t.Errorf("MovesOf(%d, %v) = %q, %v, %d, want %q, %v, %d", n, s, gotTexts, gotStates, c, texts, states, code)
	}
}

func checkForms(t *testing.T, n int, s impl.State, r, code int, forms ...string) {
	t.Helper()
	if got, c := impl.FormsOf(n, s, r); !slices.Equal(got, forms) || c != code {
		t.Errorf("FormsOf(%d, %v, %d) = %q, %d, want %q, %d", n, s, r, got, c, forms, code)
	}
}

func checkCan(t *testing.T, n, r int, want bool, code int) {
	t.Helper()
	if can, c := impl.CanEncode(n, r); can != want || c != code {
		t.Errorf("CanEncode(%d, %d) = %v, %d, want %v, %d", n, r, can, c, want, code)
	}
}

// movesByDocument is the paragraph of chapter 8 on MovesOf.
func (row profileRow) movesByDocument(s impl.State) ([]string, []impl.State) {
	var texts []string
	var states []impl.State
	for register, sets := range row.sets {
		for _, set := range sets {
			if setsOf(s)[register] == set {
				continue
			}
			next := s
			*field(&next, register) = set
			texts = append(texts, escapeTable[set][register])
			states = append(states, next)
		}
	}
	next := s
	if row.shifts && s.Left == 0 {
		next.Left = 1
		return append(texts, "\x0e"), append(states, next)
	}
	if row.shifts && s.Left == 1 {
		next.Left = 0
		return append(texts, "\x0f"), append(states, next)
	}
	return texts, states
}

// codes holds, for every set, its codes by their characters.
type codes [impl.Sets + 1]map[int]int

func codesOfSets() codes {
	var list codes
	for _, row := range setTable {
		list[row.number] = map[int]int{}
		for code, r := range row.characters() {
			list[row.number][r] = code
		}
	}
	return list
}

// formsByDocument is the paragraph of chapter 8 on FormsOf.
func (row profileRow) formsByDocument(all *codes, s impl.State, r int) []string {
	left := setsOf(s)[s.Left]
	if r < 33 || r == 127 {
		if r == 14 || r == 15 || r == 27 || r == 10 && !row.restByDocument(s) || r == 32 && kindOfSet(left) == impl.Kind96 {
			return nil
		}
		return []string{string([]byte{byte(r)})}
	}
	var list []string
	if code, ok := all[left][r]; ok && (kindOfSet(left) == impl.KindPair || code >= 33 && code <= 126) {
		list = append(list, codeBytes(kindOfSet(left), code, 0))
	}
	if code, ok := all[s.G1][r]; ok && row.right {
		list = append(list, codeBytes(kindOfSet(s.G1), code, 128))
	}
	if code, ok := all[s.G2][r]; ok && row.single && code != 127 {
		list = append(list, "\x1bN"+codeBytes(kindOfSet(s.G2), code, 0))
	}
	return list
}

// canByDocument is the paragraph of chapter 8 on CanEncode.
func (row profileRow) canByDocument(all *codes, r int) bool {
	if r < 33 || r == 127 {
		return r != 14 && r != 15 && r != 27
	}
	for register, sets := range row.sets {
		for _, set := range sets {
			if code, ok := all[set][r]; ok && (register != 2 || code != 127) {
				return true
			}
		}
	}
	return false
}

// behindHeader returns the state in which the first character is written.
func (row profileRow) behindHeader() impl.State {
	s, _, _, _ := profileRun(row.number, row.start, row.header)
	return s
}

// statesByMoves lists the states that moves reach, in the order of chapter 13.
func statesByMoves(row profileRow) []impl.State {
	list := []impl.State{row.behindHeader()}
	for at := 0; at < len(list); at++ {
		_, states, _ := impl.MovesOf(row.number, list[at])
		for _, s := range states {
			if !slices.Contains(list, s) {
				list = append(list, s)
			}
		}
	}
	return list
}

// charactersToTry lists the characters of all sets, those below 300, and some
// that no set contains.
func charactersToTry() []int {
	list := []int{912, 930, 938, 944, 970, 8253, 8255, 12352, 12436, 12448, 12535, 20062, 20092, 44220, 65376, 65440, 65295, 65306, 65533, 128512, 1114111}
	for r := range 300 {
		list = append(list, r)
	}
	for _, row := range setTable {
		for _, r := range row.characters() {
			list = append(list, r)
		}
	}
	slices.Sort(list)
	return slices.Compact(list)
}

// P8: the moves of every profile in states that its strings reach.
func TestMovesInTheDocumentedOrder(t *testing.T) {
	type states = []impl.State
	for _, v := range []struct {
		n      int
		s      impl.State
		texts  []string
		states states
	}{
		{impl.PrJp, impl.State{G0: 1}, []string{"\x1b(J", "\x1b$B"}, states{{G0: 2}, {G0: 6}}},
		{impl.PrJp, impl.State{G0: 2}, []string{"\x1b(B", "\x1b$B"}, states{{G0: 1}, {G0: 6}}},
		{impl.PrJp, impl.State{G0: 6}, []string{"\x1b(B", "\x1b(J"}, states{{G0: 1}, {G0: 2}}},
		{impl.PrJp2, impl.State{G0: 1}, []string{"\x1b(J", "\x1b$B", "\x1b$(C", "\x1b$A", "\x1b.A", "\x1b.F"},
			states{{G0: 2}, {G0: 6}, {G0: 7}, {G0: 8}, {G0: 1, G2: 4}, {G0: 1, G2: 5}}},
		{impl.PrJp2, impl.State{G0: 8, G2: 4}, []string{"\x1b(B", "\x1b(J", "\x1b$B", "\x1b$(C", "\x1b.F"},
			states{{G0: 1, G2: 4}, {G0: 2, G2: 4}, {G0: 6, G2: 4}, {G0: 7, G2: 4}, {G0: 8, G2: 5}}},
		{impl.PrKr, impl.State{G0: 1, G1: 7}, []string{"\x0e"}, states{{G0: 1, G1: 7, Left: 1}}},
		{impl.PrKr, impl.State{G0: 1, G1: 7, Left: 1}, []string{"\x0f"}, states{{G0: 1, G1: 7}}},
		{impl.PrKr, impl.State{G0: 1}, []string{"\x1b$)C", "\x0e"}, states{{G0: 1, G1: 7}, {G0: 1, Left: 1}}},
		// the byte 14 also if G1 is empty
		{impl.PrCn, impl.State{G0: 1}, []string{"\x1b$)C", "\x1b$)A", "\x1b*I", "\x1b$*B", "\x0e"},
			states{{G0: 1, G1: 7}, {G0: 1, G1: 8}, {G0: 1, G2: 3}, {G0: 1, G2: 6}, {G0: 1, Left: 1}}},
		{impl.PrCn, impl.State{G0: 1, Left: 1}, []string{"\x1b$)C", "\x1b$)A", "\x1b*I", "\x1b$*B", "\x0f"},
			states{{G0: 1, G1: 7, Left: 1}, {G0: 1, G1: 8, Left: 1}, {G0: 1, G2: 3, Left: 1}, {G0: 1, G2: 6, Left: 1}, {G0: 1}}},
		{impl.PrCn, impl.State{G0: 1, G1: 8, G2: 3, Left: 1}, []string{"\x1b$)C", "\x1b$*B", "\x0f"},
			states{{G0: 1, G1: 7, G2: 3, Left: 1}, {G0: 1, G1: 8, G2: 6, Left: 1}, {G0: 1, G1: 8, G2: 3}}},
		{impl.PrCt, impl.State{G0: 1, G1: 4}, []string{"\x1b(J", "\x1b$B", "\x1b$(C", "\x1b$A", "\x1b)I", "\x1b-F", "\x1b$)B", "\x1b$)C", "\x1b$)A"},
			states{{G0: 2, G1: 4}, {G0: 6, G1: 4}, {G0: 7, G1: 4}, {G0: 8, G1: 4}, {G0: 1, G1: 3}, {G0: 1, G1: 5}, {G0: 1, G1: 6}, {G0: 1, G1: 7}, {G0: 1, G1: 8}}},
		{impl.PrCt, impl.State{G0: 7, G1: 7}, []string{"\x1b(B", "\x1b(J", "\x1b$B", "\x1b$A", "\x1b)I", "\x1b-A", "\x1b-F", "\x1b$)B", "\x1b$)A"},
			states{{G0: 1, G1: 7}, {G0: 2, G1: 7}, {G0: 6, G1: 7}, {G0: 8, G1: 7}, {G0: 7, G1: 3}, {G0: 7, G1: 4}, {G0: 7, G1: 5}, {G0: 7, G1: 6}, {G0: 7, G1: 8}}},
		// states that no string of the profile reaches
		{impl.PrJp, impl.State{G0: 8, G1: 4, G2: 5, G3: 1, Left: 1}, []string{"\x1b(B", "\x1b(J", "\x1b$B"},
			states{{G0: 1, G1: 4, G2: 5, G3: 1, Left: 1}, {G0: 2, G1: 4, G2: 5, G3: 1, Left: 1}, {G0: 6, G1: 4, G2: 5, G3: 1, Left: 1}}},
		{impl.PrKr, impl.State{G0: 6, G1: 4, G3: 5}, []string{"\x1b(B", "\x1b$)C", "\x0e"},
			states{{G0: 1, G1: 4, G3: 5}, {G0: 6, G1: 7, G3: 5}, {G0: 6, G1: 4, G3: 5, Left: 1}}},
	} {
		checkMoves(t, v.n, v.s, v.texts, v.states, impl.OK)
	}
}

// P8: as many states as there are sets for each register, and no more.
func TestStatesThatMovesReach(t *testing.T) {
	for i, want := range []int{3, 5 * 3, 2, 3 * 3 * 2, 5 * 6} {
		row := profileTable[i]
		list := statesByMoves(row)
		if len(list) != want {
			t.Errorf("moves reach %d states of %s: %v", len(list), row.name, list)
		}
		for _, s := range list {
			if !row.stays(s) || !isWriting(s) {
				t.Errorf("moves of %s reach %v", row.name, s)
			}
			texts, states := row.movesByDocument(s)
			checkMoves(t, row.number, s, texts, states, impl.OK)
		}
	}
}

// checkMovesLead checks that the steps over each move lead to its state, without
// a character, and that none leads to where it begins.
func checkMovesLead(t *testing.T, n int, s impl.State) {
	t.Helper()
	texts, states, _ := impl.MovesOf(n, s)
	for i, text := range texts {
		if states[i] == s {
			t.Errorf("the move %q of %d from %v leads nowhere", text, n, s)
		}
		checkProfileRun(t, n, s, text, states[i], len(text), impl.OK)
	}
}

// P8, in every state: the moves, or ErrBad.
func TestMovesOfEveryState(t *testing.T) {
	eachProfile(t, func(t *testing.T, row profileRow) {
		for s := range eachState {
			if !isWriting(s) {
				checkMoves(t, row.number, s, nil, nil, impl.ErrBad)
				continue
			}
			texts, states := row.movesByDocument(s)
			checkMoves(t, row.number, s, texts, states, impl.OK)
			checkMovesLead(t, row.number, s)
		}
	})
}

// P8: forms in register Left, with Right and with Single.
func TestFormsInTheDocumentedOrder(t *testing.T) {
	for _, v := range []struct {
		n, r  int
		s     impl.State
		forms []string
	}{
		// codes of one byte and of two, in register Left
		{impl.PrJp, 65, impl.State{G0: 1}, []string{"A"}},
		{impl.PrJp, 33, impl.State{G0: 1}, []string{"!"}},
		{impl.PrJp, 126, impl.State{G0: 1}, []string{"~"}},
		{impl.PrJp, 126, impl.State{G0: 2}, nil},
		{impl.PrJp, 8254, impl.State{G0: 2}, []string{"~"}},
		{impl.PrJp, 92, impl.State{G0: 2}, nil},
		{impl.PrJp, 165, impl.State{G0: 2}, []string{"\\"}},
		{impl.PrJp, 165, impl.State{G0: 1}, nil},
		{impl.PrJp, 12354, impl.State{G0: 6}, []string{"$\""}},
		{impl.PrJp, 12354, impl.State{G0: 1}, nil},
		{impl.PrJp, 65, impl.State{G0: 6}, nil},
		{impl.PrKr, 44032, impl.State{G0: 1, G1: 7, Left: 1}, []string{"0!"}},
		{impl.PrKr, 44126, impl.State{G0: 1, G1: 7, Left: 1}, []string{"1!"}},
		{impl.PrKr, 44032, impl.State{G0: 1, G1: 7}, nil},
		{impl.PrKr, 65, impl.State{G0: 1, G1: 7, Left: 1}, nil},
		// an empty register Left, in which only controls and the space are written
		{impl.PrCn, 65, impl.State{G0: 1, Left: 1}, nil},
		{impl.PrCn, 44032, impl.State{G0: 1, Left: 1}, nil},
		{impl.PrCn, 32, impl.State{G0: 1, Left: 1}, []string{" "}},
		{impl.PrCn, 13, impl.State{G0: 1, Left: 1}, []string{"\r"}},
		// a set of Kind96 in register Left: 32 and 127 are no bytes of a code
		{impl.PrCt, 161, impl.State{G0: 1, G1: 4, Left: 1}, []string{"!", "\xa1"}},
		{impl.PrCt, 254, impl.State{G0: 1, G1: 4, Left: 1}, []string{"~", "\xfe"}},
		{impl.PrCt, 160, impl.State{G0: 1, G1: 4, Left: 1}, []string{"\xa0"}},
		{impl.PrCt, 255, impl.State{G0: 1, G1: 4, Left: 1}, []string{"\xff"}},
		{impl.PrKr, 160, impl.State{G0: 1, G1: 5, Left: 1}, nil},
		{impl.PrKr, 255, impl.State{G0: 1, G1: 4, Left: 1}, nil},
		{impl.PrKr, 254, impl.State{G0: 1, G1: 4, Left: 1}, []string{"~"}},
		// Right
		{impl.PrCt, 233, impl.State{G0: 1, G1: 4}, []string{"\xe9"}},
		{impl.PrCt, 160, impl.State{G0: 1, G1: 5}, []string{"\xa0"}},
		{impl.PrCt, 255, impl.State{G0: 1, G1: 4}, []string{"\xff"}},
		{impl.PrCt, 65377, impl.State{G0: 1, G1: 3}, []string{"\xa1"}},
		{impl.PrCt, 12354, impl.State{G0: 1, G1: 7}, []string{"\xa4\xa2"}},
		{impl.PrCt, 12354, impl.State{G0: 8, G1: 6}, []string{"$\"", "\xa4\xa2"}},
		{impl.PrCt, 19998, impl.State{G0: 8, G1: 6}, []string{"0!", "\xb0\xbf"}},
		{impl.PrCt, 44032, impl.State{G0: 7, G1: 7, Left: 1}, []string{"0!", "\xb0\xa1"}},
		{impl.PrCt, 165, impl.State{G0: 2, G1: 4}, []string{"\\", "\xa5"}},
		{impl.PrCt, 65, impl.State{G0: 1, G1: 2}, []string{"A", "\xc1"}},
		{impl.PrCt, 233, impl.State{G0: 1}, nil},
		{impl.PrJp, 233, impl.State{G0: 1, G1: 4}, nil},
		// Single, of which no profile has Right as well
		{impl.PrJp2, 233, impl.State{G0: 1, G2: 4}, []string{"\x1bNi"}},
		{impl.PrJp2, 160, impl.State{G0: 1, G2: 4}, []string{"\x1bN "}},
		{impl.PrJp2, 160, impl.State{G0: 6, G2: 5}, []string{"\x1bN "}},
		{impl.PrJp2, 254, impl.State{G0: 1, G2: 4}, []string{"\x1bN~"}},
		{impl.PrJp2, 255, impl.State{G0: 1, G2: 4}, nil},
		{impl.PrJp2, 165, impl.State{G0: 2, G2: 4}, []string{"\\", "\x1bN%"}},
		{impl.PrJp2, 233, impl.State{G0: 1}, nil},
		{impl.PrCn, 65377, impl.State{G0: 1, G2: 3}, []string{"\x1bN!"}},
		{impl.PrCn, 12354, impl.State{G0: 1, G2: 6}, []string{"\x1bN$\""}},
		{impl.PrCn, 12354, impl.State{G0: 1, G1: 8, G2: 6}, []string{"\x1bN$\""}},
		{impl.PrCn, 12354, impl.State{G0: 1, G1: 8, G2: 6, Left: 1}, []string{"$\"", "\x1bN$\""}},
		{impl.PrCn, 19998, impl.State{G0: 1, G1: 8, G2: 6, Left: 1}, []string{"0!", "\x1bN0?"}},
		{impl.PrKr, 65377, impl.State{G0: 1, G2: 3}, nil},
		{impl.PrCt, 65377, impl.State{G0: 1, G2: 3}, nil},
		// G3 is of no use
		{impl.PrJp2, 233, impl.State{G0: 1, G3: 4}, nil},
		{impl.PrCt, 233, impl.State{G0: 1, G3: 4}, nil},
		// characters in no register, and in no set
		{impl.PrCt, 128, impl.State{G0: 1, G1: 4}, nil},
		{impl.PrCt, 159, impl.State{G0: 1, G1: 4}, nil},
		{impl.PrCt, impl.Missing, impl.State{G0: 1, G1: 4}, nil},
		{impl.PrCt, 0x10ffff, impl.State{G0: 1, G1: 4}, nil},
	} {
		checkForms(t, v.n, v.s, v.r, impl.OK, v.forms...)
	}
}

// The characters that are bytes of their own: 14, 15 and 27 never, 10 at rest,
// and 32 unless it would be a code of a set of Kind96.
func TestFormsOfControlsAndSpaces(t *testing.T) {
	for _, row := range profileTable {
		n := row.number
		for _, s := range []impl.State{{G0: 1}, {G0: 6}, {G0: 1, G1: 7, Left: 1}, {G0: 1, Left: 1}, {G0: 2, G1: 4, G2: 5, G3: 8, Left: 1}} {
			for r := range 32 {
				switch r {
				case 14, 15, 27:
					checkForms(t, n, s, r, impl.OK)
				case 10:
					if row.reset && s != (impl.State{G0: 1}) {
						checkForms(t, n, s, 10, impl.OK)
					} else {
						checkForms(t, n, s, 10, impl.OK, "\n")
					}
				default:
					checkForms(t, n, s, r, impl.OK, string(rune(r)))
				}
			}
			checkForms(t, n, s, 127, impl.OK, "\x7f")
		}
		for _, s := range []impl.State{{G0: 1}, {G0: 6}, {G0: 1, G1: 4}, {G0: 1, G1: 5, G2: 4}, {G0: 1, G1: 7, G2: 4, Left: 1}, {G0: 1, Left: 1}, {G0: 1, G1: 3, Left: 1}} {
			checkForms(t, n, s, 32, impl.OK, " ")
		}
		for _, s := range []impl.State{{G0: 1, G1: 4, Left: 1}, {G0: 1, G1: 5, Left: 1}, {G0: 6, G1: 4, G2: 4, Left: 1}} {
			checkForms(t, n, s, 32, impl.OK)
		}
		// registers other than G0 do not keep a line from its end
		checkForms(t, n, impl.State{G0: 1, G1: 8, G2: 5, G3: 6}, 10, impl.OK, "\n")
	}
}

// checkFormsAreRead checks that each form is decoded to its character alone,
// and leaves the state as it was, or as LineEnd has it.
func (row profileRow) checkFormsAreRead(t *testing.T, s impl.State, r int) {
	t.Helper()
	forms, _ := impl.FormsOf(row.number, s, r)
	after := s
	if r == 10 && len(forms) > 0 {
		after, _ = row.nextByDocument(s)
	}
	for _, form := range forms {
		checkProfileRun(t, row.number, s, form, after, len(form), impl.OK, r)
	}
}

// P8, for every character of every set, in the states that moves reach.
func TestFormsOfEveryCharacter(t *testing.T) {
	all, list := codesOfSets(), charactersToTry()
	eachProfile(t, func(t *testing.T, row profileRow) {
		written := map[int]bool{}
		for _, s := range statesByMoves(row) {
			for _, r := range list {
				forms := row.formsByDocument(&all, s, r)
				checkForms(t, row.number, s, r, impl.OK, forms...)
				row.checkFormsAreRead(t, s, r)
				if len(forms) > 0 {
					written[r] = true
				}
			}
		}
		// what CanEncode accepts is what has a form in some state
		for _, r := range list {
			checkCan(t, row.number, r, written[r], impl.OK)
		}
	})
}

// P8: every set in G0, G1 and G2, also where the profile does not have it.
func TestFormsWithEverySetInEveryRegister(t *testing.T) {
	all := codesOfSets()
	eachProfile(t, func(t *testing.T, row profileRow) {
		for _, set := range setTable {
			for register := range 3 {
				s := impl.State{G0: 1}
				if escapeTable[set.number][register] == "" {
					continue
				}
				*field(&s, register) = set.number
				for _, s.Left = range []int{0, 1} {
					for _, r := range set.characters() {
						checkForms(t, row.number, s, r, impl.OK, row.formsByDocument(&all, s, r)...)
						row.checkFormsAreRead(t, s, r)
					}
				}
			}
		}
	})
}

// P8, in every state: the forms, or ErrBad.
func TestFormsOfEveryState(t *testing.T) {
	all := codesOfSets()
	list := []int{0, 10, 14, 15, 27, 32, 33, 65, 92, 126, 127, 128, 159, 160, 165, 233, 254, 255, 913, 8254, 12354, 12449, 19968, 19998, 44032, 65296, 65377, impl.Missing}
	eachProfile(t, func(t *testing.T, row profileRow) {
		for s := range eachState {
			for _, r := range list {
				if !isWriting(s) {
					checkForms(t, row.number, s, r, impl.ErrBad)
					continue
				}
				checkForms(t, row.number, s, r, impl.OK, row.formsByDocument(&all, s, r)...)
				row.checkFormsAreRead(t, s, r)
			}
			if t.Failed() {
				return
			}
		}
	})
}

// shiftsTo returns what must stand before and behind a code in a register, and
// what is added to its bytes.
func (row profileRow) shiftsTo(register int) (before, behind string, half int) {
	switch {
	case register == 1 && row.right:
		return "", "", 128
	case register == 1:
		return "\x0e", "\x0f", 0
	case register == 2:
		return "\x1bN", "", 0
	case row.reset:
		return "", "\x1b(B", 0
	}
	return "", "", 0
}

// P8: behind the designation of its set a code is decoded to its character, in
// every register to which a profile can designate the set.
func TestEveryCodeBehindItsDesignation(t *testing.T) {
	eachProfile(t, func(t *testing.T, row profileRow) {
		for register, sets := range row.sets {
			before, behind, half := row.shiftsTo(register)
			for _, set := range sets {
				for code, r := range setTable[set-1].characters() {
					text := row.header + escapeTable[set][register] + before + codeBytes(kindOfSet(set), code, half) + behind
					if register == 2 && code == 127 {
						checkDecode(t, row.number, text, len(text)-1, impl.ErrShort)
						continue
					}
					checkValid(t, row.number, text, r)
					checkValid(t, row.number, text+"\n", r, 10)
				}
			}
		}
	})
}

// ErrNone comes before ErrBad, and that before ErrRange, with nothing beside them.
func TestOrderOfTheCodesOfMovesAndForms(t *testing.T) {
	writing := []impl.State{{G0: 1}, {G0: 6, G1: 4, G2: 5}, {G0: 1, G1: 7, Left: 1}}
	// invalid, pending, or with Left 2 or 3
	others := []impl.State{{}, {G0: 4}, {G0: 9}, {G0: 1, Left: 4}, {G0: 1, Left: -1}, {G0: 1, Single: 1}, {G0: 1, Lead: 36}, {G0: 1, G1: math.MaxInt},
		{G0: 1, Single: 2}, {G0: 1, G2: 4, Single: 2}, {G0: 1, Single: 3}, {G0: 6, Lead: 36}, {G0: 1, G1: 6, Lead: 164}, {G0: 1, G2: 6, Single: 2, Lead: 36},
		{G0: 1, Left: 2}, {G0: 1, Left: 3}, {G0: 1, G2: 4, Left: 2}, {G0: 6, G3: 8, Left: 3}}
	for _, n := range noProfiles {
		for _, s := range slices.Concat(writing, others) {
			checkMoves(t, n, s, nil, nil, impl.ErrNone)
			for _, r := range []int{-1, 10, 65, 14, 55296, math.MaxInt} {
				checkForms(t, n, s, r, impl.ErrNone)
			}
		}
		for _, r := range []int{65, 10, 14, 128, -1, 55296, math.MinInt} {
			checkCan(t, n, r, false, impl.ErrNone)
		}
	}
	for _, row := range profileTable {
		for _, s := range others {
			checkMoves(t, row.number, s, nil, nil, impl.ErrBad)
			for _, r := range []int{-1, 10, 65, 14, 55296, math.MaxInt} {
				checkForms(t, row.number, s, r, impl.ErrBad)
			}
		}
		for _, r := range notCharacters {
			for _, s := range writing {
				checkForms(t, row.number, s, r, impl.ErrRange)
			}
			checkCan(t, row.number, r, false, impl.ErrRange)
		}
	}
}

func TestMovesAndFormsWithAnyIntegerInAState(t *testing.T) {
	all := codesOfSets()
	eachProfile(t, func(t *testing.T, row profileRow) {
		for _, s := range changedStates() {
			if !isWriting(s) {
				checkMoves(t, row.number, s, nil, nil, impl.ErrBad)
				checkForms(t, row.number, s, 65, impl.ErrBad)
				continue
			}
			texts, states := row.movesByDocument(s)
			checkMoves(t, row.number, s, texts, states, impl.OK)
			for _, r := range []int{10, 32, 65, 165, 233, 12354} {
				checkForms(t, row.number, s, r, impl.OK, row.formsByDocument(&all, s, r)...)
			}
		}
	})
}

// Each letter of want stands for a profile: T if it can encode the character.
func TestCharactersThatProfilesCanEncode(t *testing.T) {
	for _, v := range []struct {
		r    int
		want string
	}{
		{0, "TTTTT"}, {9, "TTTTT"}, {10, "TTTTT"}, {13, "TTTTT"}, {14, "FFFFF"}, {15, "FFFFF"}, {16, "TTTTT"}, {26, "TTTTT"}, {27, "FFFFF"}, {28, "TTTTT"}, {31, "TTTTT"},
		{32, "TTTTT"}, {33, "TTTTT"}, {126, "TTTTT"}, {127, "TTTTT"}, {128, "FFFFF"}, {142, "FFFFF"}, {159, "FFFFF"},
		{160, "FTFFT"}, {161, "FTFFT"}, {165, "TTFFT"}, {254, "FTFFT"}, {255, "FFFFT"}, {256, "FFFFF"}, {8254, "TTFFT"},
		{912, "FFFFF"}, {913, "FTFFT"}, {929, "FTFFT"}, {930, "FFFFF"}, {931, "FTFFT"}, {969, "FTFFT"}, {970, "FFFFF"},
		{12352, "FFFFF"}, {12353, "TTTTT"}, {12435, "TTTTT"}, {12436, "FFFFF"}, {12449, "TTFTT"}, {12534, "TTFTT"}, {12535, "FFFFF"},
		{19967, "FFFFF"}, {19968, "TTFTT"}, {20061, "TTFTT"}, {20062, "FTFTT"}, {20091, "FTFTT"}, {20092, "FFFFF"},
		{44031, "FFFFF"}, {44032, "FTTTT"}, {44219, "FTTTT"}, {44220, "FFFFF"}, {65296, "TTFTT"}, {65305, "TTFTT"}, {65306, "FFFFF"},
		{65376, "FFFFF"}, {65377, "FFFTT"}, {65439, "FFFTT"}, {65440, "FFFFF"}, {impl.Missing, "FFFFF"}, {55295, "FFFFF"}, {57344, "FFFFF"}, {impl.MaxRune, "FFFFF"},
	} {
		for i, row := range profileTable {
			checkCan(t, row.number, v.r, v.want[i] == 'T', impl.OK)
		}
	}
}

func TestCanEncodeOfEveryCharacter(t *testing.T) {
	all := codesOfSets()
	eachProfile(t, func(t *testing.T, row profileRow) {
		for r := range 70000 {
			if impl.RuneOK(r) {
				checkCan(t, row.number, r, row.canByDocument(&all, r), impl.OK)
			} else {
				checkCan(t, row.number, r, false, impl.ErrRange)
			}
		}
		for r := 70000; r <= impl.MaxRune; r += 997 {
			checkCan(t, row.number, r, false, impl.OK)
		}
	})
}

// Convention 3: a caller who changes a result changes no later one.
func TestMovesAndFormsAreNewMemory(t *testing.T) {
	for _, row := range profileTable {
		s := row.behindHeader()
		texts, states := row.movesByDocument(s)
		one, two, _ := impl.MovesOf(row.number, s)
		for i := range one[:cap(one)] {
			one[:cap(one)][i] = "changed"
		}
		if !slices.Equal(two, states) {
			t.Errorf("the results of MovesOf(%d, %v) share memory", row.number, s)
		}
		for i := range two[:cap(two)] {
			two[:cap(two)][i] = impl.State{G0: -1}
		}
		checkMoves(t, row.number, s, texts, states, impl.OK)
		forms, _ := impl.FormsOf(row.number, s, 65)
		for i := range forms[:cap(forms)] {
			forms[:cap(forms)][i] = "changed"
		}
		checkForms(t, row.number, s, 65, impl.OK, "A")
	}
	s := impl.State{G0: 8, G1: 6}
	forms, _ := impl.FormsOf(impl.PrCt, s, 12354)
	for i := range forms[:cap(forms)] {
		forms[:cap(forms)][i] = "changed"
	}
	checkForms(t, impl.PrCt, s, 12354, impl.OK, "$\"", "\xa4\xa2")
}
