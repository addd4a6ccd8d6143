package tests

import (
	"math/rand"
	"slices"
	"strings"
	"testing"

	"loop.example/g00748/impl"
)

// A quest is for the first of all valid strings of a profile with a list of
// characters. The strings that it tries consist of its bytes.
type quest struct {
	row     profileRow
	list    []int
	bytes   []byte
	escapes []string
	chars   characters
}

func (row profileRow) questFor(list []int, bytes []byte) quest {
	return quest{row: row, list: list, bytes: bytes, escapes: row.escapes(), chars: charactersOfSets()}
}

// escapes lists the escape sequences that a profile allows, also the longer ones
// for a pair in register 0.
func (row profileRow) escapes() []string {
	var list []string
	for register, sets := range row.sets {
		for _, set := range sets {
			list = append(list, escapeTable[set][register])
			if register == 0 && kindOfSet(set) == impl.KindPair {
				list = append(list, "\x1b$("+string(rune(setTable[set-1].final)))
			}
		}
	}
	if row.single {
		list = append(list, "\x1bN")
	}
	return list
}

func (q *quest) beginsEscape(text string) bool {
	for _, escape := range q.escapes {
		if strings.HasPrefix(escape, text) {
			return true
		}
	}
	return false
}

// mayGoOn reports whether a string may be the beginning of a valid one with these
// characters: what is missing is only its end.
func (q *quest) mayGoOn(text string) bool {
	if len(text) < len(q.row.header) {
		return strings.HasPrefix(q.row.header, text)
	}
	chars, at, code := impl.Decode(q.row.number, text)
	if len(chars) > len(q.list) || !slices.Equal(chars, q.list[:len(chars)]) {
		return false
	}
	if code == impl.OK || at == len(text) && (code == impl.ErrShort || code == impl.ErrReset) {
		return true
	}
	return q.beginsEscape(text[at:])
}

// byTrial tries all strings, the shorter ones first and those of equal length in
// lexicographic order, up to the first one that is looked for. Only strings that
// no end can make valid are left out.
func (q *quest) byTrial() string {
	texts := []string{""}
	for len(texts) > 0 {
		for _, text := range texts {
			if chars, _, code := impl.Decode(q.row.number, text); code == impl.OK && slices.Equal(chars, q.list) {
				return text
			}
		}
		var longer []string
		for _, text := range texts {
			for _, b := range q.bytes {
				if next := text + string([]byte{b}); q.mayGoOn(next) {
					longer = append(longer, next)
				}
			}
		}
		texts = longer
	}
	return "no string"
}

// P10, by brute force: the first of all valid strings with a short list of
// characters.
func TestEncodingsAreTheFirstOfAllStrings(t *testing.T) {
	short := map[int][][]int{
		impl.PrJp: {{}, {65}, {10}, {165}, {19968}, {12354, 19968}, {32, 19968}, {19968, 32}, {9, 19968, 28}, {8254, 65}, {65, 8254}, {65, 19968, 66}, {165, 19968}, {19968, 10}, {10, 19968, 10}, {92, 165}},
		impl.PrJp2: {{}, {65}, {160}, {165}, {233}, {913}, {12354}, {19998}, {20062}, {44032}, {12354, 12354}, {12354, 44032}, {32, 233}, {233, 32}, {233, 10}, {9, 233}, {165, 165}, {65, 254, 66},
			{160, 160}, {165, 65}},
		impl.PrKr: {{}, {65}, {10}, {32}, {44032}, {12354}, {32, 44032}, {44032, 32}, {13, 44032}, {44032, 16}, {44032, 10}, {44032, 65}},
		impl.PrCn: {{}, {65}, {10}, {32}, {44032}, {12354}, {12449}, {19968}, {19998}, {65377}, {32, 65377}, {65377, 10}, {65377, 65}, {65296}, {20062}},
		impl.PrCt: {{}, {65}, {10}, {233}, {160}, {165}, {255}, {913}, {8254}, {12354}, {19968}, {44032}, {65377}, {165, 8254}, {8254, 165}, {12354, 65}, {65, 12354}, {10, 913}, {160, 913}, {913, 10, 913}, {32, 913},
			{65377, 65}, {44032, 44033}, {12354, 233}, {233, 12354}},
	}
	all := codesOfSets()
	eachProfile(t, func(t *testing.T, row profileRow) {
		for _, list := range short[row.number] {
			q := row.questFor(list, bytesFor(&all, list))
			// all bytes, as long as that does not take too much time
			if cost, _, _ := impl.CostOf(row.number, list); cost <= max(6, len(row.header)+4) {
				q.bytes = everyByte()
			}
			checkEncode(t, row.number, q.byTrial(), list...)
		}
	})
}

// A place is how far a string has come: the state, how many characters it has
// made, and the escape sequence at its end that is not complete.
type place struct {
	state impl.State
	made  int
	tail  string
}

// goOn returns the place behind one more byte, and false if no valid string with
// these characters begins so. It is chapter 7 byte by byte.
func (q *quest) goOn(p place, b byte) (place, bool) {
	p.tail += string([]byte{b})
	if p.tail[0] == 27 && !q.beginsEscape(p.tail) {
		return place{}, false
	}
	x, _ := impl.NextToken(p.tail, 0)
	if x.Kind == impl.TkTail {
		return p, true
	}
	after := q.row.stepByDocument(&q.chars, p.state, x)
	if after.code != impl.OK {
		return place{}, false
	}
	if after.made {
		if p.made == len(q.list) || q.list[p.made] != after.r {
			return place{}, false
		}
		p.made++
	}
	return place{after.state, p.made, ""}, true
}

// byPlaces finds what byTrial finds, but of several strings that have come to the
// same place it goes on with the shortest and then the lexicographically first
// only.
func (q *quest) byPlaces() string {
	texts := map[place]string{{state: q.row.behindHeader()}: q.row.header}
	passed := map[place]bool{}
	for len(texts) > 0 {
		if text, ok := q.firstValid(texts); ok {
			return text
		}
		for p := range texts {
			passed[p] = true
		}
		longer := map[place]string{}
		for p, text := range texts {
			for _, b := range q.bytes {
				next, ok := q.goOn(p, b)
				if !ok || passed[next] {
					continue
				}
				whole := text + string([]byte{b})
				if other, ok := longer[next]; !ok || whole < other {
					longer[next] = whole
				}
			}
		}
		texts = longer
	}
	return "no string"
}

// firstValid returns the lexicographically first string that is looked for.
func (q *quest) firstValid(texts map[place]string) (string, bool) {
	first, ok := "", false
	for p, text := range texts {
		if p.made == len(q.list) && p.tail == "" && q.row.restByDocument(p.state) && (!ok || text < first) {
			first, ok = text, true
		}
	}
	return first, ok
}

// bytesFor lists the bytes of all moves and of all codes of the characters, and
// some others.
func bytesFor(all *codes, list []int) []byte {
	bytes := []byte("\n\x0e\x0f\x1b ()*+-./$ABCFIJNO0!~\xb0\xff")
	for _, r := range list {
		if r < 128 {
			bytes = append(bytes, byte(r))
		}
		for _, set := range setTable {
			if code, ok := all[set.number][r]; ok {
				bytes = append(bytes, codeBytes(set.kind, code, 0)+codeBytes(set.kind, code, 128)...)
			}
		}
	}
	slices.Sort(bytes)
	return slices.Compact(bytes)
}

func everyByte() []byte {
	var bytes []byte
	for b := range 256 {
		bytes = append(bytes, byte(b))
	}
	return bytes
}

// The two ways of finding the first string agree.
func TestTheFirstStringByTrialAndByPlaces(t *testing.T) {
	for _, v := range []struct {
		n    int
		list []int
	}{{impl.PrJp, []int{165}}, {impl.PrJp2, []int{165}}, {impl.PrKr, []int{44032}}, {impl.PrCn, []int{65377}}, {impl.PrCt, []int{165, 8254}}} {
		q := profileTable[v.n-1].questFor(v.list, everyByte())
		if one, two := q.byTrial(), q.byPlaces(); one != two {
			t.Errorf("the first string of %d for %v: %q by trial, %q by places", v.n, v.list, one, two)
		}
	}
}

func (row profileRow) checkFirst(t *testing.T, all *codes, list []int) {
	t.Helper()
	q := row.questFor(list, bytesFor(all, list))
	checkEncode(t, row.number, q.byPlaces(), list...)
}

// P10, for the characters that a profile can encode, alone and between others;
// those of a set differ in their bytes only, so that not all of them are tried.
func TestTheFirstStringOfEveryKindOfCharacter(t *testing.T) {
	all := codesOfSets()
	eachProfile(t, func(t *testing.T, row profileRow) {
		for _, list := range row.characters(&all) {
			for k, r := range list {
				if k%16 == 0 || k == len(list)-1 {
					row.checkFirst(t, &all, []int{r})
					row.checkFirst(t, &all, []int{32, r, 65, r})
				}
			}
		}
	})
}

// P10, for lists of characters of several sets over several lines.
func TestTheFirstStringOfRandomLists(t *testing.T) {
	all := codesOfSets()
	eachProfile(t, func(t *testing.T, row profileRow) {
		source := rand.New(rand.NewSource(int64(row.number)))
		lists := row.characters(&all)
		for i := range 40 {
			row.checkFirst(t, &all, randomList(source, lists, 1+i%12))
			if t.Failed() {
				return
			}
		}
		row.checkFirst(t, &all, randomList(source, lists, impl.MaxChars))
	})
}

// checkNotLater checks that no encoding is longer than a valid string with its
// characters, or as long and behind it.
func checkNotLater(t *testing.T, n int, text string, list []int) {
	t.Helper()
	first, at, code := impl.Encode(n, list)
	if at != 0 || code != impl.OK || len(first) > len(text) || len(first) == len(text) && first > text {
		t.Errorf("Encode(%d, %v) = %q, %d, %d, but %q is valid", n, list, first, at, code, text)
	}
}

// P10: no valid string has fewer bytes than the encoding of its characters, and
// each of them can be encoded.
func TestNoValidStringIsShorter(t *testing.T) {
	for _, v := range validTexts {
		checkNotLater(t, v.n, v.text, v.chars)
	}
	eachProfile(t, func(t *testing.T, row profileRow) {
		source := rand.New(rand.NewSource(int64(row.number)))
		parts, valid := row.partsOf(), 0
		for range 20000 {
			text := row.randomText(source, parts)
			list, _, code := impl.Decode(row.number, text)
			if code == impl.OK && len(list) <= impl.MaxChars {
				valid++
				checkNotLater(t, row.number, text, list)
			}
			if t.Failed() || valid == 1000 {
				return
			}
		}
		if valid < 100 {
			t.Errorf("only %d strings are valid in %s", valid, row.name)
		}
	})
}

// isMovesAndForms reports whether a text consists of the Header, moves, and one
// form for each character, and nothing else.
func (row profileRow) isMovesAndForms(text string, list []int) bool {
	s := row.behindHeader()
	text, ok := strings.CutPrefix(text, row.header)
	for ok && (text != "" || len(list) > 0) {
		texts, states, _ := impl.MovesOf(row.number, s)
		begins := func(part string) bool { return strings.HasPrefix(text, part) }
		if i := slices.IndexFunc(texts, begins); i >= 0 {
			text, s = text[len(texts[i]):], states[i]
			continue
		}
		if len(list) == 0 {
			return false
		}
		forms, _ := impl.FormsOf(row.number, s, list[0])
		i := slices.IndexFunc(forms, begins)
		if i < 0 {
			return false
		}
		if list[0] == 10 {
			s, _ = row.nextByDocument(s)
		}
		text, list = text[len(forms[i]):], list[1:]
	}
	return ok && row.restByDocument(s)
}

// P8 and P10: what an encoding consists of, what it decodes to is encoded to it
// again, and without any one of its characters but 10 it is shorter.
func TestEncodingsOfRandomLists(t *testing.T) {
	all := codesOfSets()
	eachProfile(t, func(t *testing.T, row profileRow) {
		source := rand.New(rand.NewSource(int64(row.number)))
		lists := row.characters(&all)
		for i := range 60 {
			list := randomList(source, lists, i%20)
			if i == 0 {
				list = randomList(source, lists, impl.MaxChars)
			}
			text, _, _ := impl.Encode(row.number, list)
			if !row.isMovesAndForms(text, list) {
				t.Errorf("Encode(%d, %v) = %q is not the Header, moves and forms", row.number, list, text)
			}
			back, _, _ := impl.Decode(row.number, text)
			if again, at, code := impl.Encode(row.number, back); again != text || at != 0 || code != impl.OK {
				t.Errorf("Encode(%d, %v) = %q, %d, %d, but first %q", row.number, back, again, at, code, text)
			}
			for k, r := range list {
				without := slices.Delete(slices.Clone(list), k, k+1)
				cost, _, code := impl.CostOf(row.number, without)
				if code != impl.OK || cost > len(text) || cost == len(text) && r != 10 {
					t.Errorf("CostOf(%d, %v) = %d, %d, but with %d at %d it is %d", row.number, without, cost, code, r, k, len(text))
				}
			}
		}
	})
}
