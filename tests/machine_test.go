package tests

import (
	"slices"
	"strings"
	"testing"

	"loop.example/g00748/impl"
)

var (
	noToken    = impl.Token{}
	spaceToken = newToken(impl.TkSpace, 0, 0, 0, 0, 1)
	tailToken  = newToken(impl.TkTail, 0, 0, 0, 0, 1)
	otherToken = newToken(impl.TkOther, 0, 0, 0, 0, 2)
)

func leftToken(a int) impl.Token    { return newToken(impl.TkLeft, a, 0, 0, 0, 1) }
func rightToken(a int) impl.Token   { return newToken(impl.TkRight, a, 0, 0, 0, 1) }
func controlToken(a int) impl.Token { return newToken(impl.TkControl, a, 0, 0, 0, 1) }
func singleToken(a int) impl.Token  { return newToken(impl.TkSingle, a, 0, 0, 0, 2) }

func shiftToken(a int) impl.Token {
	return newToken(impl.TkShift, a, 0, 0, 0, 1+a/2)
}

func nameToken(register, kind, final int) impl.Token {
	return newToken(impl.TkName, register, kind, final, 0, 3)
}

func setsOf(s impl.State) [4]int {
	return [4]int{s.G0, s.G1, s.G2, s.G3}
}

// field returns the address of a register, or of one of the other fields.
func field(s *impl.State, n int) *int {
	return []*int{&s.G0, &s.G1, &s.G2, &s.G3, &s.Left, &s.Single, &s.Lead}[n]
}

// kindOfSet returns 0 for an empty register.
func kindOfSet(set int) int {
	if set == 0 {
		return 0
	}
	return setTable[set-1].kind
}

// referred returns the set of the register that a half refers to.
func referred(s impl.State, right bool) int {
	if s.Single != 0 {
		return setsOf(s)[s.Single]
	}
	if right {
		return s.G1
	}
	return setsOf(s)[s.Left]
}

// validByDocument reports what the first paragraph of chapter 5 says of a state.
func validByDocument(s impl.State) bool {
	for _, set := range setsOf(s) {
		if set < 0 || set > impl.Sets {
			return false
		}
	}
	if s.G0 == 0 || kindOfSet(s.G0) == impl.Kind96 {
		return false
	}
	if !slices.Contains([]int{0, 1, 2, 3}, s.Left) || !slices.Contains([]int{0, 2, 3}, s.Single) {
		return false
	}
	if s.Lead >= 33 && s.Lead <= 126 {
		return kindOfSet(referred(s, false)) == impl.KindPair
	}
	if s.Lead >= 128+33 && s.Lead <= 128+126 {
		return kindOfSet(referred(s, true)) == impl.KindPair
	}
	return s.Lead == 0
}

func isPending(s impl.State) bool {
	return s.Single != 0 || s.Lead != 0
}

// checkState checks whether a state is valid and whether it is pending.
func checkState(t *testing.T, s impl.State, valid bool) {
	t.Helper()
	if impl.StateOK(s) != valid {
		t.Errorf("StateOK(%v) = %v", s, !valid)
	}
	if pending := valid && isPending(s); impl.Pending(s) != pending {
		t.Errorf("Pending(%v) = %v", s, !pending)
	}
}

func TestStartState(t *testing.T) {
	s := impl.StartState()
	if s != (impl.State{G0: impl.StAscii}) {
		t.Error("StartState", s)
	}
	checkState(t, s, true)
}

func TestStatesThatAreValid(t *testing.T) {
	for _, s := range []impl.State{
		{G0: 1}, {G0: 2}, {G0: 3}, {G0: 6}, {G0: 7}, {G0: 8}, {G0: 1, G1: 1, G2: 1, G3: 1}, {G0: 8, G1: 8, G2: 8, G3: 8}, {G0: 1, G1: 4, G2: 5, G3: 4},
		// a shift may refer to an empty register
		{G0: 1, Left: 1}, {G0: 1, Left: 2}, {G0: 1, Left: 3}, {G0: 1, Single: 2}, {G0: 1, Single: 3}, {G0: 1, Left: 3, Single: 2},
		{G0: 6, Lead: 33}, {G0: 6, Lead: 126}, {G0: 1, G1: 6, Lead: 161}, {G0: 1, G1: 6, Lead: 254},
		{G0: 1, G1: 7, Left: 1, Lead: 36}, {G0: 1, G2: 7, Left: 2, Lead: 36}, {G0: 1, G3: 7, Left: 3, Lead: 36}, {G0: 1, G1: 8, Left: 3, Lead: 164},
		{G0: 1, G2: 6, Single: 2, Lead: 36}, {G0: 1, G2: 6, Single: 2, Lead: 164}, {G0: 1, G3: 6, Single: 3, Lead: 36}, {G0: 1, G3: 6, Single: 3, Lead: 164},
	} {
		checkState(t, s, true)
	}
}

func TestStatesThatAreInvalid(t *testing.T) {
	for _, s := range []impl.State{
		{}, {G0: 4}, {G0: 5}, {G0: 9}, {G0: -1}, {G1: 1}, {G0: 1, G1: 9}, {G0: 1, G2: 9}, {G0: 1, G3: 9}, {G0: 1, G1: -1}, {G0: 1, G2: -1}, {G0: 1, G3: -1},
		{G0: 1, Left: 4}, {G0: 1, Left: -1}, {G0: 1, Single: 1}, {G0: 1, Single: 4}, {G0: 1, Single: -2},
		// the first byte of a pair outside its range
		{G0: 6, Lead: 1}, {G0: 6, Lead: 32}, {G0: 6, Lead: 127}, {G0: 6, G1: 6, Lead: 128}, {G0: 6, G1: 6, Lead: 160}, {G0: 6, G1: 6, Lead: 255}, {G0: 6, G1: 6, Lead: 256 + 36}, {G0: 6, Lead: -36},
		// the register of its half holds no pairs
		{G0: 1, Lead: 36}, {G0: 1, G1: 6, Lead: 36}, {G0: 6, Lead: 164}, {G0: 6, G1: 4, Lead: 164}, {G0: 6, Left: 1, Lead: 36}, {G0: 6, G1: 3, Left: 1, Lead: 36},
		{G0: 1, G1: 1, G2: 6, Left: 2, Lead: 164},
		// the register Single takes its place for both halves
		{G0: 6, Single: 2, Lead: 36}, {G0: 6, G1: 6, G2: 4, Single: 2, Lead: 36}, {G0: 6, G1: 6, G2: 4, Single: 2, Lead: 164}, {G0: 6, G1: 6, G2: 6, Single: 3, Lead: 36}, {G0: 6, G1: 6, G3: 6, Single: 2, Lead: 164},
	} {
		checkState(t, s, false)
	}
}

// Several fields at once, around their limits.
func TestStatesAroundTheirLimits(t *testing.T) {
	leads := []int{-36, -1, 0, 1, 32, 33, 126, 127, 128, 160, 161, 254, 255, 289}
	valid := 0
	for sets := range 11 * 11 * 11 * 11 {
		s := impl.State{G0: sets%11 - 1, G1: sets/11%11 - 1, G2: sets/121%11 - 1, G3: sets/1331 - 1}
		for s.Left = -1; s.Left <= 4; s.Left++ {
			for s.Single = -1; s.Single <= 4; s.Single++ {
				for _, s.Lead = range leads {
					want := validByDocument(s)
					checkState(t, s, want)
					if want {
						valid++
					}
				}
			}
		}
		if t.Failed() {
			return
		}
	}
	if valid < 6*9*9*9*4*3 {
		t.Error("valid states", valid)
	}
}

// smallStates lists valid states that use every field.
func smallStates() []impl.State {
	return []impl.State{
		{G0: 1}, {G0: 6, G1: 4, G2: 5, G3: 8}, {G0: 7, G1: 7, Left: 1}, {G0: 2, G1: 3, G2: 4, Left: 2}, {G0: 1, G3: 5, Left: 3}, {G0: 1, Left: 1},
		{G0: 1, G2: 4, Single: 2}, {G0: 1, Single: 3}, {G0: 8, Lead: 48}, {G0: 1, G1: 6, Lead: 164}, {G0: 6, G1: 3, Lead: 36}, {G0: 1, G2: 6, Single: 2, Lead: 36}, {G0: 6, G3: 7, Single: 3, Lead: 176},
	}
}

// changedStates lists states in which one field holds any integer.
func changedStates() []impl.State {
	numbers := append(append(slices.Clone(farInts), hostileInts...), -2, -3, -4)
	for n := range 300 {
		numbers = append(numbers, n)
	}
	var list []impl.State
	for _, s := range smallStates() {
		for n := range 7 {
			for _, number := range numbers {
				changed := s
				*field(&changed, n) = number
				list = append(list, changed)
			}
		}
	}
	return list
}

// ErrBad comes before all other codes, and nothing but zero values beside it.
func TestAnyIntegerInEveryFieldOfAState(t *testing.T) {
	for _, s := range changedStates() {
		valid := validByDocument(s)
		checkState(t, s, valid)
		if valid {
			continue
		}
		for _, n := range []int{-1, 0, 3, 4, 9} {
			if set, code := impl.RegisterOf(s, n); set != 0 || code != impl.ErrBad {
				t.Errorf("RegisterOf(%v, %d) = %d, %d", s, n, set, code)
			}
			for _, set := range []int{0, 1, 4, 9} {
				if x, code := impl.NameSet(s, n, set); x != (impl.State{}) || code != impl.ErrBad {
					t.Errorf("NameSet(%v, %d, %d) = %v, %d", s, n, set, x, code)
				}
			}
		}
		for _, x := range []impl.Token{noToken, leftToken(65), rightToken(65), spaceToken, controlToken(10), shiftToken(1), singleToken(2), nameToken(0, 1, 66), tailToken, otherToken} {
			checkStep(t, s, x, outcome{code: impl.ErrBad})
		}
		for _, text := range []string{"", "A", "\x1b", "\xe9", strings.Repeat("a", impl.MaxText)} {
			checkRun(t, s, text, impl.State{}, 0, impl.ErrBad)
		}
		checkRun(t, s, strings.Repeat("a", impl.MaxText+1), impl.State{}, 0, impl.ErrLong)
	}
}

// eachState yields valid states with sets of every kind in every register, with
// every shift, and with first bytes of pairs in both halves.
func eachState(yield func(s impl.State) bool) {
	for _, g0 := range []int{1, 2, 3, 6, 7, 8} {
		for _, g1 := range []int{0, 1, 3, 4, 5, 6, 7} {
			for _, g2 := range []int{0, 1, 4, 6} {
				for _, g3 := range []int{0, 3, 5, 8} {
					if !eachShift(impl.State{G0: g0, G1: g1, G2: g2, G3: g3}, yield) {
						return
					}
				}
			}
		}
	}
}

func eachShift(s impl.State, yield func(s impl.State) bool) bool {
	for _, s.Left = range []int{0, 1, 2, 3} {
		for _, s.Single = range []int{0, 2, 3} {
			for _, s.Lead = range []int{0, 33, 36, 48, 126, 161, 164, 176, 254} {
				if validByDocument(s) && !yield(s) {
					return false
				}
			}
		}
	}
	return true
}

func TestRegistersOfEveryState(t *testing.T) {
	for s := range eachState {
		for n, want := range setsOf(s) {
			if set, code := impl.RegisterOf(s, n); set != want || code != impl.OK {
				t.Fatalf("RegisterOf(%v, %d) = %d, %d, want %d", s, n, set, code, want)
			}
		}
	}
	for _, s := range smallStates() {
		for _, n := range append([]int{4, 5, 256, 259}, farInts...) {
			if set, code := impl.RegisterOf(s, n); set != 0 || code != impl.ErrRange {
				t.Errorf("RegisterOf(%v, %d) = %d, %d", s, n, set, code)
			}
		}
	}
}

// P5: a designated set is in its register, and nothing else changes; in a
// pending state nothing changes at all.
func TestNameSetChangesOneRegister(t *testing.T) {
	for s := range eachState {
		for set := 1; set <= impl.Sets; set++ {
			for register := range 4 {
				want, wantCode := s, impl.OK
				switch {
				case register == 0 && kindOfSet(set) == impl.Kind96:
					want, wantCode = impl.State{}, impl.ErrRange
				case isPending(s):
					wantCode = impl.ErrShort
				default:
					*field(&want, register) = set
				}
				x, code := impl.NameSet(s, register, set)
				if x != want || code != wantCode {
					t.Fatalf("NameSet(%v, %d, %d) = %v, %d, want %v, %d", s, register, set, x, code, want, wantCode)
				}
				if held, c := impl.RegisterOf(x, register); code == impl.OK && (held != set || c != impl.OK) {
					t.Fatalf("NameSet(%v, %d, %d): the register holds %d, %d", s, register, set, held, c)
				}
			}
		}
	}
}

// A set that does not exist comes before a register that does not, and both
// come before a pending state.
func TestNameSetOutOfRange(t *testing.T) {
	registers := append([]int{4, 5, 256, 259}, farInts...)
	for _, s := range smallStates() {
		for _, set := range noSets {
			for _, register := range append([]int{0, 1, 2, 3}, registers...) {
				if x, code := impl.NameSet(s, register, set); x != (impl.State{}) || code != impl.ErrNone {
					t.Errorf("NameSet(%v, %d, %d) = %v, %d", s, register, set, x, code)
				}
			}
		}
		for set := 1; set <= impl.Sets; set++ {
			for _, register := range registers {
				if x, code := impl.NameSet(s, register, set); x != (impl.State{}) || code != impl.ErrRange {
					t.Errorf("NameSet(%v, %d, %d) = %v, %d", s, register, set, x, code)
				}
			}
		}
	}
}

// An outcome is what a step yields.
type outcome struct {
	state impl.State
	r     int
	made  bool
	code  int
}

func checkStep(t *testing.T, s impl.State, x impl.Token, want outcome) {
	t.Helper()
	var got outcome
	got.state, got.r, got.made, got.code = impl.StepState(s, x)
	if got != want {
		t.Errorf("StepState(%v, %v) = %v, want %v", s, x, got, want)
	}
}

// stepMoves checks a step that produces no character.
func stepMoves(t *testing.T, s impl.State, x impl.Token, want impl.State) {
	t.Helper()
	checkStep(t, s, x, outcome{state: want})
}

// stepMakes checks a step that produces a character.
func stepMakes(t *testing.T, s impl.State, x impl.Token, want impl.State, r int) {
	t.Helper()
	checkStep(t, s, x, outcome{state: want, r: r, made: true})
}

// stepFails checks a step with a code, which changes nothing.
func stepFails(t *testing.T, s impl.State, x impl.Token, code int) {
	t.Helper()
	checkStep(t, s, x, outcome{state: s, code: code})
}

func TestStepsOfControls(t *testing.T) {
	for b, v := range kindsOfBytes() {
		if v[0] != impl.TkControl {
			continue
		}
		for _, s := range smallStates() {
			switch {
			case isPending(s):
				stepFails(t, s, controlToken(int(b)), impl.ErrShort)
			case b > 127:
				stepFails(t, s, controlToken(int(b)), impl.ErrEscape)
			default:
				stepMakes(t, s, controlToken(int(b)), s, int(b))
			}
		}
	}
	s := impl.StartState()
	stepMakes(t, s, controlToken(0), s, 0)
	stepMakes(t, s, controlToken(127), s, 127)
	stepFails(t, s, controlToken(128), impl.ErrEscape)
	stepFails(t, s, controlToken(159), impl.ErrEscape)
}

func TestStepsOfShifts(t *testing.T) {
	for _, s := range smallStates() {
		for a := range 4 {
			moved := s
			moved.Left = a
			if isPending(s) {
				stepFails(t, s, shiftToken(a), impl.ErrShort)
			} else {
				stepMoves(t, s, shiftToken(a), moved)
			}
		}
		for a := 2; a <= 3; a++ {
			moved := s
			moved.Single = a
			for length := 1; length <= 2; length++ {
				x := newToken(impl.TkSingle, a, 0, 0, 0, length)
				if isPending(s) {
					stepFails(t, s, x, impl.ErrShort)
				} else {
					stepMoves(t, s, x, moved)
				}
			}
		}
		want := impl.ErrEscape
		if isPending(s) {
			want = impl.ErrShort
		}
		stepFails(t, s, otherToken, want)
		stepFails(t, s, tailToken, impl.ErrShort)
	}
}

// P5: every kind and final byte in every register; a set of Kind96 in register
// 0 is no valid token.
func TestStepsOfDesignations(t *testing.T) {
	for _, s := range smallStates() {
		for register := range 4 {
			for kind := impl.Kind94; kind <= impl.KindPair; kind++ {
				for final := 64; final <= 126; final++ {
					x := nameToken(register, kind, final)
					row := slices.IndexFunc(setTable, func(row setRow) bool { return row.kind == kind && row.final == final })
					named := s
					*field(&named, register) = row + 1
					switch {
					case register == 0 && kind == impl.Kind96:
						checkStep(t, s, x, outcome{code: impl.ErrBad})
					case isPending(s):
						stepFails(t, s, x, impl.ErrShort)
					case row < 0:
						stepFails(t, s, x, impl.ErrEscape)
					default:
						stepMoves(t, s, x, named)
						x.Len = 4
						stepMoves(t, s, x, named)
					}
				}
			}
		}
	}
	s := impl.StartState()
	stepMoves(t, s, nameToken(0, impl.KindPair, 67), impl.State{G0: impl.StHangul})
	stepMoves(t, s, nameToken(2, impl.Kind96, 70), impl.State{G0: 1, G2: impl.StGreek})
	stepFails(t, s, nameToken(1, impl.Kind96, 66), impl.ErrEscape)
	stepFails(t, s, nameToken(0, impl.Kind94, 65), impl.ErrEscape)
}

func TestStepsOfSingleCodes(t *testing.T) {
	s := impl.State{G0: 1, G1: 4, G2: 5, G3: 3}
	with := func(left, single int) impl.State {
		x := s
		x.Left, x.Single = left, single
		return x
	}
	stepMakes(t, s, leftToken(65), s, 65)
	stepMakes(t, s, rightToken(65), s, 193)
	stepMakes(t, with(1, 0), leftToken(65), with(1, 0), 193)
	stepMakes(t, with(2, 0), leftToken(65), with(2, 0), 913)
	stepMakes(t, with(3, 0), leftToken(65), with(3, 0), 65409)
	// the right half does not follow the locking shift
	stepMakes(t, with(2, 0), rightToken(65), with(2, 0), 193)
	stepMakes(t, with(3, 0), rightToken(65), with(3, 0), 193)
	// both halves follow the single shift, once
	stepMakes(t, with(0, 2), leftToken(65), s, 913)
	stepMakes(t, with(0, 2), rightToken(65), s, 913)
	stepMakes(t, with(1, 3), leftToken(65), with(1, 0), 65409)
	stepMakes(t, with(2, 3), rightToken(65), with(2, 0), 65409)
	stepMakes(t, with(3, 2), rightToken(65), with(3, 0), 913)
	// codes without a character
	stepFails(t, with(2, 0), leftToken(64), impl.ErrUnmapped)
	stepFails(t, with(0, 2), leftToken(82), impl.ErrUnmapped)
	stepFails(t, with(0, 2), rightToken(126), impl.ErrUnmapped)
	stepFails(t, with(0, 3), leftToken(96), impl.ErrUnmapped)
}

func TestEmptyRegisters(t *testing.T) {
	for _, s := range []impl.State{{G0: 1, Left: 1}, {G0: 1, G1: 4, Left: 2}, {G0: 1, G1: 4, G2: 4, Left: 3}, {G0: 1, G1: 4, Single: 2}, {G0: 1, G1: 4, G2: 4, Single: 3}} {
		stepFails(t, s, leftToken(65), impl.ErrState)
	}
	for _, s := range []impl.State{{G0: 1}, {G0: 1, G2: 4, Left: 2}, {G0: 1, G1: 4, Single: 2}, {G0: 1, G1: 4, Single: 3}} {
		for _, a := range []int{32, 65, 127} {
			stepFails(t, s, rightToken(a), impl.ErrState)
		}
	}
	// before the other half's byte
	stepFails(t, impl.State{G0: 6, Lead: 36}, rightToken(34), impl.ErrState)
	stepFails(t, impl.State{G0: 1, G1: 6, Left: 2, Lead: 164}, leftToken(34), impl.ErrState)
	// a space is no code of an empty register
	for _, s := range []impl.State{{G0: 1, Left: 1}, {G0: 1, Left: 2}, {G0: 1, Left: 3}} {
		stepMakes(t, s, spaceToken, s, 32)
	}
	stepFails(t, impl.State{G0: 1, Single: 2}, spaceToken, impl.ErrShort)
	stepFails(t, impl.State{G0: 1, G1: 4, Left: 1, Single: 3}, spaceToken, impl.ErrShort)
}

func TestStepsOfPairs(t *testing.T) {
	s := impl.State{G0: 6, G1: 7, G2: 8, G3: 6}
	with := func(left, single, lead int) impl.State {
		x := s
		x.Left, x.Single, x.Lead = left, single, lead
		return x
	}
	stepMoves(t, s, leftToken(48), with(0, 0, 48))
	stepMakes(t, with(0, 0, 48), leftToken(33), s, 19968)
	stepMoves(t, s, rightToken(48), with(0, 0, 176))
	stepMakes(t, with(0, 0, 176), rightToken(33), s, 44032)
	stepMakes(t, with(1, 0, 48), leftToken(34), with(1, 0, 0), 44033)
	stepMakes(t, with(2, 0, 48), leftToken(33), with(2, 0, 0), 19998)
	stepMakes(t, with(2, 0, 176), rightToken(34), with(2, 0, 0), 44033)
	// a single shift lasts for both bytes, in either half
	stepMoves(t, with(1, 2, 0), leftToken(48), with(1, 2, 48))
	stepMakes(t, with(1, 2, 48), leftToken(33), with(1, 0, 0), 19998)
	stepMoves(t, with(1, 3, 0), rightToken(48), with(1, 3, 176))
	stepMakes(t, with(1, 3, 176), rightToken(33), with(1, 0, 0), 19968)
	// any byte can be the first one; the pair may have no character
	for a := 33; a <= 126; a++ {
		stepMoves(t, s, leftToken(a), with(0, 0, a))
		stepMoves(t, s, rightToken(a), with(0, 0, a+128))
	}
	stepFails(t, with(0, 0, 36), leftToken(116), impl.ErrUnmapped)
	stepFails(t, with(0, 0, 33), leftToken(33), impl.ErrUnmapped)
	stepFails(t, with(0, 0, 254), rightToken(126), impl.ErrUnmapped)
	stepFails(t, with(0, 2, 49), leftToken(33), impl.ErrUnmapped)
}

// The bytes 32 and 127 of the right half, which are no bytes of a pair.
func TestBytesOutsideThePairs(t *testing.T) {
	for _, a := range []int{32, 127} {
		for _, s := range []impl.State{{G0: 1, G1: 6}, {G0: 1, G1: 7, Lead: 164}, {G0: 1, G2: 8, Single: 2}, {G0: 1, G3: 6, Single: 3, Lead: 164}} {
			stepFails(t, s, rightToken(a), impl.ErrUnmapped)
		}
		// the other half's first byte comes before
		for _, s := range []impl.State{{G0: 6, G1: 6, Lead: 36}, {G0: 1, G3: 6, Single: 3, Lead: 36}} {
			stepFails(t, s, rightToken(a), impl.ErrShort)
		}
	}
}

func TestAFirstByteOfOneHalfAndATokenOfTheOther(t *testing.T) {
	for _, s := range []impl.State{{G0: 6, G1: 6, Lead: 36}, {G0: 1, G1: 6, G2: 7, Left: 2, Lead: 36}, {G0: 1, G1: 8, Left: 1, Lead: 36}, {G0: 1, G2: 6, Single: 2, Lead: 36}} {
		stepFails(t, s, rightToken(34), impl.ErrShort)
		stepFails(t, s, rightToken(126), impl.ErrShort)
	}
	for _, s := range []impl.State{{G0: 6, G1: 6, Lead: 164}, {G0: 1, G1: 6, G2: 7, Left: 2, Lead: 164}, {G0: 1, G1: 8, Left: 1, Lead: 164}, {G0: 1, G3: 6, Single: 3, Lead: 164}} {
		stepFails(t, s, leftToken(34), impl.ErrShort)
		stepFails(t, s, leftToken(126), impl.ErrShort)
	}
	// only sets of KindPair look at the first byte: another set's code is
	// complete, and the first byte is dropped
	stepMakes(t, impl.State{G0: 6, G1: 4, Lead: 36}, rightToken(105), impl.State{G0: 6, G1: 4}, 233)
	stepMakes(t, impl.State{G0: 6, G1: 4, Lead: 36}, rightToken(32), impl.State{G0: 6, G1: 4}, 160)
	stepMakes(t, impl.State{G0: 1, G1: 6, Lead: 164}, leftToken(65), impl.State{G0: 1, G1: 6}, 65)
	stepFails(t, impl.State{G0: 6, G1: 3, Lead: 36}, rightToken(96), impl.ErrUnmapped)
	stepFails(t, impl.State{G0: 6, G1: 3, Lead: 36}, rightToken(127), impl.ErrUnmapped)
}

func TestSpaces(t *testing.T) {
	for set := range impl.Sets + 1 {
		s := impl.State{G0: 1, G1: set, G2: set, G3: set}
		for s.Left = 1; s.Left <= 3; s.Left++ {
			if kindOfSet(set) == impl.Kind96 {
				stepMakes(t, s, spaceToken, s, 160)
			} else {
				stepMakes(t, s, spaceToken, s, 32)
			}
		}
		for s.Left = 0; s.Left <= 3; s.Left++ {
			// only the register Single matters
			for single := 2; single <= 3; single++ {
				pending := s
				pending.Single = single
				if kindOfSet(set) == impl.Kind96 {
					stepMakes(t, pending, spaceToken, s, 160)
				} else {
					stepFails(t, pending, spaceToken, impl.ErrShort)
				}
			}
		}
	}
	for _, g0 := range []int{1, 2, 3, 6, 7, 8} {
		s := impl.State{G0: g0, G1: 4, G2: 5, G3: 4}
		stepMakes(t, s, spaceToken, s, 32)
	}
	// the register Left and the register Single differ in kind
	stepMakes(t, impl.State{G0: 1, G2: 5, Single: 2}, spaceToken, impl.State{G0: 1, G2: 5}, 160)
	stepFails(t, impl.State{G0: 1, G1: 4, G2: 1, Left: 1, Single: 2}, spaceToken, impl.ErrShort)
	stepFails(t, impl.State{G0: 1, G1: 4, G2: 6, Left: 1, Single: 2}, spaceToken, impl.ErrShort)
	// behind a first byte
	stepFails(t, impl.State{G0: 6, Lead: 36}, spaceToken, impl.ErrShort)
	stepFails(t, impl.State{G0: 1, G1: 6, G2: 4, Left: 2, Lead: 164}, spaceToken, impl.ErrShort)
	stepFails(t, impl.State{G0: 1, G1: 4, G2: 6, Left: 1, Single: 2, Lead: 36}, spaceToken, impl.ErrShort)
	stepFails(t, impl.State{G0: 1, G1: 4, G2: 6, Left: 1, Single: 2, Lead: 164}, spaceToken, impl.ErrShort)
}

// The bytes 160 and 255, with sets of each kind.
func TestEndsOfTheRightHalf(t *testing.T) {
	for _, v := range []struct{ set, low, high int }{{4, 160, 255}, {5, 160, 0}, {1, 0, 0}, {2, 0, 0}, {3, 0, 0}, {6, 0, 0}, {7, 0, 0}, {8, 0, 0}} {
		rest := impl.State{G0: 1, G1: v.set, G2: v.set, G3: v.set}
		for _, single := range []int{0, 2, 3} {
			s := rest
			s.Single = single
			for a, r := range map[int]int{32: v.low, 127: v.high} {
				if r == 0 {
					stepFails(t, s, rightToken(a), impl.ErrUnmapped)
				} else {
					stepMakes(t, s, rightToken(a), rest, r)
				}
			}
		}
	}
}

// characters holds, for every set, its characters by their codes.
type characters [impl.Sets + 1]map[int]int

func charactersOfSets() characters {
	var list characters
	for _, row := range setTable {
		list[row.number] = row.characters()
	}
	return list
}

// codeByDocument is the first item of the paragraph 'A step'.
func codeByDocument(chars *characters, s impl.State, right bool, a int) outcome {
	fault := func(code int) outcome { return outcome{state: s, code: code} }
	set := referred(s, right)
	if set == 0 {
		return fault(impl.ErrState)
	}
	code, after := a, s
	after.Single, after.Lead = 0, 0
	if kindOfSet(set) == impl.KindPair {
		if s.Lead != 0 && (s.Lead > 128) != right {
			return fault(impl.ErrShort)
		}
		if a < 33 || a > 126 {
			return fault(impl.ErrUnmapped)
		}
		if s.Lead == 0 {
			waits := s
			waits.Lead = a
			if right {
				waits.Lead += 128
			}
			return outcome{state: waits}
		}
		code = s.Lead%128*256 + a
	}
	r, ok := chars[set][code]
	if !ok {
		return fault(impl.ErrUnmapped)
	}
	return outcome{after, r, true, impl.OK}
}

// stepByDocument is the paragraph 'A step', for a valid state and token.
func stepByDocument(chars *characters, s impl.State, x impl.Token) outcome {
	fault := func(code int) outcome { return outcome{state: s, code: code} }
	if x.Kind == impl.TkLeft || x.Kind == impl.TkRight {
		return codeByDocument(chars, s, x.Kind == impl.TkRight, x.A)
	}
	if isPending(s) {
		if x.Kind == impl.TkSpace && s.Lead == 0 && kindOfSet(setsOf(s)[s.Single]) == impl.Kind96 {
			return codeByDocument(chars, s, false, 32)
		}
		return fault(impl.ErrShort)
	}
	after := s
	switch x.Kind {
	case impl.TkControl:
		if x.A > 127 {
			return fault(impl.ErrEscape)
		}
		return outcome{s, x.A, true, impl.OK}
	case impl.TkSpace:
		if kindOfSet(setsOf(s)[s.Left]) == impl.Kind96 {
			return codeByDocument(chars, s, false, 32)
		}
		return outcome{s, 32, true, impl.OK}
	case impl.TkShift:
		after.Left = x.A
	case impl.TkSingle:
		after.Single = x.A
	case impl.TkName:
		row := slices.IndexFunc(setTable, func(row setRow) bool { return row.kind == x.B && row.final == x.C })
		if row < 0 {
			return fault(impl.ErrEscape)
		}
		*field(&after, x.A) = row + 1
	case impl.TkTail:
		return fault(impl.ErrShort)
	case impl.TkOther:
		return fault(impl.ErrEscape)
	}
	return outcome{state: after}
}

// tokensOfEveryKind lists tokens with the values that matter to a step.
func tokensOfEveryKind() []impl.Token {
	list := []impl.Token{spaceToken, tailToken, otherToken, singleToken(2), singleToken(3), newToken(impl.TkSingle, 2, 0, 0, 9, 1)}
	for _, a := range []int{0, 10, 31, 127, 128, 133, 159} {
		list = append(list, controlToken(a))
	}
	for _, a := range []int{33, 34, 36, 48, 64, 65, 92, 95, 96, 115, 116, 126} {
		list = append(list, leftToken(a), rightToken(a))
	}
	list = append(list, rightToken(32), rightToken(127))
	for register := range 4 {
		list = append(list, shiftToken(register))
		for set := 1; set <= impl.Sets; set++ {
			if register != 0 || kindOfSet(set) != impl.Kind96 {
				list = append(list, nameToken(register, setTable[set-1].kind, setTable[set-1].final))
			}
		}
		list = append(list, nameToken(register, impl.Kind94, 65), nameToken(register, impl.KindPair, 126))
	}
	return append(list, nameToken(1, impl.Kind96, 66), nameToken(3, impl.Kind96, 64))
}

// P5, for every kind of token in many states. A step yields a valid state.
func TestStepsAreThoseOfTheDocument(t *testing.T) {
	chars, tokens := charactersOfSets(), tokensOfEveryKind()
	for s := range eachState {
		for _, x := range tokens {
			want := stepByDocument(&chars, s, x)
			checkStep(t, s, x, want)
			if !impl.StateOK(want.state) {
				t.Errorf("StepState(%v, %v) yields an invalid state", s, x)
			}
		}
		if t.Failed() {
			return
		}
	}
}

// Every byte of both halves, in states that refer to every set.
func TestStepsOfEveryByte(t *testing.T) {
	chars := charactersOfSets()
	for set := 1; set <= impl.Sets; set++ {
		for single := range 4 {
			if single == 1 {
				continue
			}
			s := impl.State{G0: 1, G1: set, G2: set, G3: set, Left: 1, Single: single}
			for lead := range 255 {
				s.Lead = lead
				if !validByDocument(s) {
					continue
				}
				for a := 32; a <= 127; a++ {
					checkStep(t, s, rightToken(a), codeByDocument(&chars, s, true, a))
					if a >= 33 && a <= 126 {
						checkStep(t, s, leftToken(a), codeByDocument(&chars, s, false, a))
					}
				}
			}
		}
	}
}

// The place of a token does not matter to a step.
func TestStepsIgnoreThePlaceOfAToken(t *testing.T) {
	chars := charactersOfSets()
	for _, s := range smallStates() {
		for _, x := range tokensOfEveryKind() {
			want := stepByDocument(&chars, s, x)
			for _, x.At = range []int{0, 1, 65535, 65536} {
				checkStep(t, s, x, want)
			}
			for _, x.At = range []int{-1, 65537} {
				checkStep(t, s, x, outcome{code: impl.ErrBad})
			}
		}
	}
}

// Any integer in every field of a token: a step accepts the tokens of chapter 4.
func TestStepsOfTokensThatAreInvalidInOneField(t *testing.T) {
	chars := charactersOfSets()
	numbers := append(append(slices.Clone(farInts), hostileInts...), -2, -3, -4)
	for n := range 300 {
		numbers = append(numbers, n)
	}
	for _, s := range smallStates() {
		for _, x := range []impl.Token{noToken, spaceToken, tailToken, otherToken, leftToken(65), rightToken(36), controlToken(10), controlToken(130), shiftToken(1), shiftToken(3), singleToken(2), singleToken(3),
			nameToken(0, 1, 66), nameToken(1, 2, 65), nameToken(0, 3, 67), nameToken(3, 3, 66), nameToken(2, 1, 126)} {
			for n := range 6 {
				for _, number := range numbers {
					changed := x
					*[]*int{&changed.Kind, &changed.A, &changed.B, &changed.C, &changed.At, &changed.Len}[n] = number
					want := outcome{code: impl.ErrBad}
					if _, code := impl.TokenText(changed); code == impl.OK {
						want = stepByDocument(&chars, s, changed)
					}
					checkStep(t, s, changed, want)
				}
			}
		}
	}
}
