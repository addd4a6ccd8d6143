package tests

import (
	"math"
	"slices"
	"strings"
	"testing"

	"loop.example/g00748/impl"
)

// A profileRow is a row of the table of chapter 6, with the state of StartOf.
type profileRow struct {
	number                              int
	name, header                        string
	sets                                [4][]int
	right, shifts, single, reset, clear bool
	start                               impl.State
}

var profileTable = []profileRow{
	{number: impl.PrJp, name: "jp", sets: [4][]int{{1, 2, 6}}, reset: true, clear: true, start: impl.State{G0: 1}},
	{number: impl.PrJp2, name: "jp2", sets: [4][]int{{1, 2, 6, 7, 8}, {}, {4, 5}}, single: true, reset: true, clear: true, start: impl.State{G0: 1}},
	{number: impl.PrKr, name: "kr", header: "\x1b$)C", sets: [4][]int{{1}, {7}}, shifts: true, reset: true, start: impl.State{G0: 1}},
	{number: impl.PrCn, name: "cn", sets: [4][]int{{1}, {7, 8}, {3, 6}}, shifts: true, single: true, reset: true, clear: true, start: impl.State{G0: 1}},
	{number: impl.PrCt, name: "ct", sets: [4][]int{{1, 2, 6, 7, 8}, {3, 4, 5, 6, 7, 8}}, right: true, start: impl.State{G0: 1, G1: 4}},
}

// Numbers that are no profile's, those beside the limits first.
var noProfiles = append([]int{0, 6, 7, 8, 255, 256, 257, 261}, farInts...)

// same reports whether a profile is this row's, field by field.
func (row profileRow) same(p impl.Profile) bool {
	flags := [5]bool{p.Right, p.Shifts, p.Single, p.Reset, p.Clear}
	return p.Name == row.name && p.Header == row.header && slices.EqualFunc(p.Sets, row.sets[:], slices.Equal[[]int]) &&
		flags == [5]bool{row.right, row.shifts, row.single, row.reset, row.clear}
}

// eachProfile runs a test for every profile, at the same time as other tests.
func eachProfile(t *testing.T, test func(t *testing.T, row profileRow)) {
	t.Parallel()
	for _, row := range profileTable {
		t.Run(row.name, func(t *testing.T) {
			t.Parallel()
			test(t, row)
		})
	}
}

func TestConstantsOfProfiles(t *testing.T) {
	if impl.Profiles != 5 || len(profileTable) != 5 {
		t.Error("Profiles", impl.Profiles)
	}
	for i, row := range profileTable {
		if row.number != i+1 {
			t.Errorf("the profile %s has the number %d", row.name, row.number)
		}
	}
}

func TestProfilesAreThoseOfTheTable(t *testing.T) {
	for _, row := range profileTable {
		p, code := impl.ProfileOf(row.number)
		if !row.same(p) || code != impl.OK || len(p.Sets) != 4 {
			t.Errorf("ProfileOf(%d) = %+v, %d", row.number, p, code)
		}
		for register, list := range p.Sets {
			for _, set := range list {
				if _, code := impl.EscapeOf(register, set); code != impl.OK {
					t.Errorf("the profile %s has the set %d for register %d", row.name, set, register)
				}
			}
		}
		if n, code := impl.ProfileNamed(row.name); n != row.number || code != impl.OK {
			t.Errorf("ProfileNamed(%q) = %d, %d", row.name, n, code)
		}
		if s, code := impl.StartOf(row.number); s != row.start || code != impl.OK {
			t.Errorf("StartOf(%d) = %v, %d", row.number, s, code)
		}
	}
	p, _ := impl.ProfileOf(impl.PrKr)
	if header, _ := impl.EscapeOf(1, impl.StHangul); p.Header != header {
		t.Errorf("the Header of kr is %q", p.Header)
	}
	s, _ := impl.StartOf(impl.PrCt)
	if s != (impl.State{G0: impl.StAscii, G1: impl.StLatin}) {
		t.Error("StartOf of ct", s)
	}
}

// ErrNone comes before ErrBad, and nothing but zero values beside it.
func TestNumbersThatAreNoProfiles(t *testing.T) {
	states := []impl.State{{G0: 1}, {G0: 1, G1: 7, Left: 1}, {G0: 6, Lead: 36}, {}, {G0: 4}, {G0: 1, Left: math.MaxInt}}
	tokens := []impl.Token{leftToken(65), controlToken(10), tailToken, otherToken, nameToken(0, 1, 81), rightToken(65), noToken, newToken(3, 65, 0, 0, -1, 1)}
	for _, n := range noProfiles {
		if p, code := impl.ProfileOf(n); !isNoProfile(p) || code != impl.ErrNone {
			t.Errorf("ProfileOf(%d) = %+v, %d", n, p, code)
		}
		if s, code := impl.StartOf(n); s != (impl.State{}) || code != impl.ErrNone {
			t.Errorf("StartOf(%d) = %v, %d", n, s, code)
		}
		for _, s := range states {
			checkRest(t, n, s, false, impl.ErrNone)
			checkLineEnd(t, n, s, impl.State{}, impl.ErrNone)
			for _, x := range tokens {
				checkProfileStep(t, n, s, x, outcome{code: impl.ErrNone})
			}
		}
		for _, x := range tokens {
			checkAllows(t, n, x, false, impl.ErrNone)
		}
	}
}

// isNoProfile reports whether a profile is the zero value.
func isNoProfile(p impl.Profile) bool {
	return p.Name == "" && p.Header == "" && len(p.Sets) == 0 && !p.Right && !p.Shifts && !p.Single && !p.Reset && !p.Clear
}

func TestProfileNamedAcceptsNothingButNames(t *testing.T) {
	names := []string{"", "JP", "Jp", "j", "p", "jp ", " jp", "jp1", "jp3", "jp22", "jp2 ", "jp\x00", "\x00", "KR", "krr", "c", "cnct", "ct\n", "1", "5", "ascii", "profile",
		strings.Repeat("jp", impl.MaxText/2), strings.Repeat("a", impl.MaxText), "jp" + strings.Repeat(" ", impl.MaxText-2)}
	for _, name := range names {
		if n, code := impl.ProfileNamed(name); n != 0 || code != impl.ErrNone {
			t.Errorf("ProfileNamed(%.20q) = %d, %d", name, n, code)
		}
	}
	for _, name := range []string{strings.Repeat("a", impl.MaxText+1), "jp" + strings.Repeat("\x00", impl.MaxText-1), strings.Repeat("jp", impl.MaxText)} {
		if n, code := impl.ProfileNamed(name); n != 0 || code != impl.ErrLong {
			t.Errorf("ProfileNamed of %d bytes = %d, %d", len(name), n, code)
		}
	}
}

// Convention 3: a caller who changes a profile changes no other result, and no
// list of a profile shares memory with another one.
func TestProfileOfReturnsNewMemory(t *testing.T) {
	for _, row := range profileTable {
		one, _ := impl.ProfileOf(row.number)
		two, _ := impl.ProfileOf(row.number)
		for register, list := range one.Sets {
			for i := range list[:cap(list)] {
				list[:cap(list)][i] = impl.StKana
			}
			for other := register + 1; other < 4; other++ {
				if !slices.Equal(one.Sets[other], row.sets[other]) {
					t.Errorf("the lists %d and %d of %s share memory", register, other, row.name)
				}
			}
		}
		for i := range one.Sets[:cap(one.Sets)] {
			one.Sets[:cap(one.Sets)][i] = []int{impl.StKana}
		}
		three, _ := impl.ProfileOf(row.number)
		if !row.same(two) || !row.same(three) {
			t.Errorf("the results of ProfileOf(%d) share memory: %v, %v", row.number, two, three)
		}
		for x := range tokenShapes() {
			checkAllows(t, row.number, x, row.allowsByDocument(x), impl.OK)
		}
	}
}

func checkAllows(t *testing.T, n int, x impl.Token, want bool, wantCode int) {
	t.Helper()
	if yes, code := impl.AllowsToken(n, x); yes != want || code != wantCode {
		t.Errorf("AllowsToken(%d, %v) = %v, %d, want %v, %d", n, x, yes, code, want, wantCode)
	}
}

// setOfName returns the set of a designation, or 0 for none.
func setOfName(x impl.Token) int {
	return slices.IndexFunc(setTable, func(row setRow) bool { return row.kind == x.B && row.final == x.C }) + 1
}

// allowsByDocument is what chapter 6 says of AllowsToken, for a valid token.
func (row profileRow) allowsByDocument(x impl.Token) bool {
	switch x.Kind {
	case impl.TkControl:
		return x.A < 128
	case impl.TkSpace, impl.TkLeft:
		return true
	case impl.TkRight:
		return row.right
	case impl.TkShift:
		return row.shifts && (x.A == 0 || x.A == 1)
	case impl.TkSingle:
		return row.single && x.A == 2 && x.Len == 2
	case impl.TkName:
		set := setOfName(x)
		return set != 0 && slices.Contains(row.sets[x.A], set)
	}
	return false
}

// P6: every valid token in every profile, at both ends of the offsets.
func TestEveryTokenInEveryProfile(t *testing.T) {
	shapes := tokenShapes()
	eachProfile(t, func(t *testing.T, row profileRow) {
		for x := range shapes {
			want := row.allowsByDocument(x)
			for _, x.At = range []int{0, 65536} {
				checkAllows(t, row.number, x, want, impl.OK)
			}
			for _, x.At = range []int{-1, 65537} {
				checkAllows(t, row.number, x, false, impl.ErrBad)
			}
		}
		for _, kind := range []int{impl.TkTail, impl.TkOther} {
			for _, length := range []int{1, 2, 3, 4, 5, 65536} {
				checkAllows(t, row.number, newToken(kind, 0, 0, 0, 0, length), false, impl.OK)
			}
		}
	})
}

// Each letter of want stands for a profile: T if it allows the token, F if not.
func TestTokensAtTheLimitsOfAProfile(t *testing.T) {
	for _, v := range []struct {
		x    impl.Token
		want string
	}{
		{controlToken(0), "TTTTT"}, {controlToken(10), "TTTTT"}, {controlToken(127), "TTTTT"}, {controlToken(128), "FFFFF"}, {controlToken(159), "FFFFF"},
		{spaceToken, "TTTTT"}, {leftToken(33), "TTTTT"}, {leftToken(126), "TTTTT"}, {rightToken(32), "FFFFT"}, {rightToken(65), "FFFFT"}, {rightToken(127), "FFFFT"},
		{shiftToken(0), "FFTTF"}, {shiftToken(1), "FFTTF"}, {shiftToken(2), "FFFFF"}, {shiftToken(3), "FFFFF"},
		{newToken(impl.TkSingle, 2, 0, 0, 0, 1), "FFFFF"}, {newToken(impl.TkSingle, 2, 0, 0, 0, 2), "FTFTF"},
		{newToken(impl.TkSingle, 3, 0, 0, 0, 1), "FFFFF"}, {newToken(impl.TkSingle, 3, 0, 0, 0, 2), "FFFFF"},
		{tailToken, "FFFFF"}, {otherToken, "FFFFF"},
		// a set in the registers that have it, and in those that do not
		{nameToken(0, 1, 66), "TTTTT"}, {nameToken(1, 1, 66), "FFFFF"}, {nameToken(2, 1, 66), "FFFFF"}, {nameToken(3, 1, 66), "FFFFF"},
		{nameToken(0, 1, 74), "TTFFT"}, {nameToken(1, 1, 74), "FFFFF"}, {nameToken(0, 1, 73), "FFFFF"}, {nameToken(1, 1, 73), "FFFFT"}, {nameToken(2, 1, 73), "FFFTF"},
		{nameToken(1, 2, 65), "FFFFT"}, {nameToken(2, 2, 65), "FTFFF"}, {nameToken(3, 2, 65), "FFFFF"}, {nameToken(1, 2, 70), "FFFFT"}, {nameToken(2, 2, 70), "FTFFF"},
		{nameToken(0, 3, 66), "TTFFT"}, {nameToken(1, 3, 66), "FFFFT"}, {nameToken(2, 3, 66), "FFFTF"}, {nameToken(3, 3, 66), "FFFFF"},
		{nameToken(0, 3, 67), "FTFFT"}, {nameToken(1, 3, 67), "FFTTT"}, {nameToken(2, 3, 67), "FFFFF"},
		{nameToken(0, 3, 65), "FTFFT"}, {nameToken(1, 3, 65), "FFFTT"}, {nameToken(2, 3, 65), "FFFFF"},
		// the longer sequence for a pair in register 0
		{newToken(impl.TkName, 0, 3, 66, 0, 4), "TTFFT"}, {newToken(impl.TkName, 0, 3, 65, 0, 4), "FTFFT"},
		// sets that do not exist
		{nameToken(0, 1, 64), "FFFFF"}, {nameToken(0, 1, 65), "FFFFF"}, {nameToken(1, 2, 66), "FFFFF"}, {nameToken(2, 2, 126), "FFFFF"}, {nameToken(0, 3, 64), "FFFFF"}, {nameToken(1, 3, 68), "FFFFF"},
	} {
		for i, row := range profileTable {
			checkAllows(t, row.number, v.x, v.want[i] == 'T', impl.OK)
		}
	}
}

// P6: every escape sequence that designates a set.
func TestDesignationsInEveryProfile(t *testing.T) {
	for _, row := range profileTable {
		allowed := 0
		for set, escapes := range escapeTable {
			for register, escape := range escapes {
				if escape == "" {
					continue
				}
				x, _ := impl.NextToken(escape, 0)
				want := slices.Contains(row.sets[register], set)
				checkAllows(t, row.number, x, want, impl.OK)
				s, named := row.start, row.start
				*field(&named, register) = set
				if want {
					allowed++
					checkProfileStep(t, row.number, s, x, outcome{state: named})
				} else {
					checkProfileStep(t, row.number, s, x, outcome{state: s, code: impl.ErrForbidden})
				}
			}
		}
		if allowed != len(slices.Concat(row.sets[:]...)) {
			t.Errorf("the profile %s allows %d designations", row.name, allowed)
		}
	}
}

func checkRest(t *testing.T, n int, s impl.State, want bool, wantCode int) {
	t.Helper()
	if rest, code := impl.AtRest(n, s); rest != want || code != wantCode {
		t.Errorf("AtRest(%d, %v) = %v, %d, want %v, %d", n, s, rest, code, want, wantCode)
	}
}

func checkLineEnd(t *testing.T, n int, s, want impl.State, wantCode int) {
	t.Helper()
	if next, code := impl.LineEnd(n, s); next != want || code != wantCode {
		t.Errorf("LineEnd(%d, %v) = %v, %d, want %v, %d", n, s, next, code, want, wantCode)
	}
}

// restByDocument is what chapter 6 says of AtRest, for a valid state.
func (row profileRow) restByDocument(s impl.State) bool {
	if row.reset && (s.Left != 0 || s.G0 != impl.StAscii) {
		return false
	}
	return s.Single == 0 && s.Lead == 0
}

// nextByDocument is what chapter 6 says of LineEnd, for a valid state.
func (row profileRow) nextByDocument(s impl.State) (impl.State, int) {
	if !row.restByDocument(s) {
		return s, impl.ErrReset
	}
	if row.clear {
		return row.start, impl.OK
	}
	return s, impl.OK
}

func TestLineEndsOfEveryState(t *testing.T) {
	eachProfile(t, func(t *testing.T, row profileRow) {
		for s := range eachState {
			checkRest(t, row.number, s, row.restByDocument(s), impl.OK)
			next, code := row.nextByDocument(s)
			checkLineEnd(t, row.number, s, next, code)
		}
	})
}

// Each letter of rest stands for a profile: T if the state is at rest there.
func TestStatesAtRest(t *testing.T) {
	for _, v := range []struct {
		s    impl.State
		rest string
	}{
		{impl.State{G0: 1}, "TTTTT"}, {impl.State{G0: 1, G1: 4, G2: 5, G3: 8}, "TTTTT"}, {impl.State{G0: 1, G1: 7}, "TTTTT"},
		// G0 or Left, with and without Reset
		{impl.State{G0: 2}, "FFFFT"}, {impl.State{G0: 6}, "FFFFT"}, {impl.State{G0: 3}, "FFFFT"}, {impl.State{G0: 1, Left: 1}, "FFFFT"}, {impl.State{G0: 1, G1: 7, Left: 1}, "FFFFT"},
		{impl.State{G0: 1, G2: 4, Left: 2}, "FFFFT"}, {impl.State{G0: 1, G3: 1, Left: 3}, "FFFFT"}, {impl.State{G0: 6, G1: 1, Left: 1}, "FFFFT"},
		// pending by Single, by Lead, and by both
		{impl.State{G0: 1, Single: 2}, "FFFFF"}, {impl.State{G0: 1, G2: 5, Single: 2}, "FFFFF"}, {impl.State{G0: 1, G3: 3, Single: 3}, "FFFFF"},
		{impl.State{G0: 6, Lead: 36}, "FFFFF"}, {impl.State{G0: 1, G1: 6, Lead: 164}, "FFFFF"}, {impl.State{G0: 1, G1: 7, Left: 1, Lead: 48}, "FFFFF"},
		{impl.State{G0: 1, G2: 6, Single: 2, Lead: 36}, "FFFFF"}, {impl.State{G0: 1, G3: 8, Single: 3, Lead: 176}, "FFFFF"},
	} {
		for i, row := range profileTable {
			rest := v.rest[i] == 'T'
			checkRest(t, row.number, v.s, rest, impl.OK)
			if !rest {
				checkLineEnd(t, row.number, v.s, v.s, impl.ErrReset)
			}
		}
	}
}

// P6: the state in which the next line begins, with and without Clear.
func TestStatesBehindALineEnd(t *testing.T) {
	full := impl.State{G0: 1, G1: 8, G2: 3, G3: 5}
	start := impl.State{G0: 1}
	for _, s := range []impl.State{start, full, {G0: 1, G1: 7}, {G0: 1, G2: 4}} {
		for _, n := range []int{impl.PrJp, impl.PrJp2, impl.PrCn} {
			checkLineEnd(t, n, s, start, impl.OK)
		}
		for _, n := range []int{impl.PrKr, impl.PrCt} {
			checkLineEnd(t, n, s, s, impl.OK)
		}
	}
	for _, s := range []impl.State{{G0: 6, G1: 4}, {G0: 2}, {G0: 1, G1: 3, Left: 1}, {G0: 8, G2: 5, Left: 2}} {
		checkLineEnd(t, impl.PrCt, s, s, impl.OK)
	}
}

// ErrBad for the state and for the token, in every field, with any integer.
func TestInvalidStatesInEveryProfile(t *testing.T) {
	eachProfile(t, func(t *testing.T, row profileRow) {
		n := row.number
		for _, s := range changedStates() {
			if validByDocument(s) {
				next, code := row.nextByDocument(s)
				checkRest(t, n, s, row.restByDocument(s), impl.OK)
				checkLineEnd(t, n, s, next, code)
				continue
			}
			checkRest(t, n, s, false, impl.ErrBad)
			checkLineEnd(t, n, s, impl.State{}, impl.ErrBad)
			for _, x := range []impl.Token{noToken, tailToken, otherToken, nameToken(0, 1, 81), rightToken(65), controlToken(10), leftToken(65)} {
				checkProfileStep(t, n, s, x, outcome{code: impl.ErrBad})
			}
		}
	})
}

func TestInvalidTokensInEveryProfile(t *testing.T) {
	numbers := append(append(slices.Clone(farInts), hostileInts...), -2, -3, -4)
	for n := range 300 {
		numbers = append(numbers, n)
	}
	bases := []impl.Token{noToken, spaceToken, tailToken, otherToken, leftToken(65), rightToken(36), controlToken(10), controlToken(130), shiftToken(1), shiftToken(3), singleToken(2), singleToken(3),
		nameToken(0, 1, 66), nameToken(1, 2, 65), nameToken(0, 3, 67), nameToken(2, 3, 66), nameToken(2, 1, 126)}
	chars := charactersOfSets()
	eachProfile(t, func(t *testing.T, row profileRow) {
		for _, base := range bases {
			for i := range 6 {
				for _, number := range numbers {
					x := base
					*[]*int{&x.Kind, &x.A, &x.B, &x.C, &x.At, &x.Len}[i] = number
					s := impl.State{G0: 1, G1: 7, G2: 4}
					if _, code := impl.TokenText(x); code == impl.OK {
						checkAllows(t, row.number, x, row.allowsByDocument(x), impl.OK)
						checkProfileStep(t, row.number, s, x, row.stepByDocument(&chars, s, x))
						continue
					}
					checkAllows(t, row.number, x, false, impl.ErrBad)
					checkProfileStep(t, row.number, s, x, outcome{code: impl.ErrBad})
					checkProfileStep(t, row.number, impl.State{}, x, outcome{code: impl.ErrBad})
				}
			}
		}
	})
}
