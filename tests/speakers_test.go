package tests

import (
	"fmt"
	"math"
	"math/rand"
	"runtime"
	"slices"
	"sync"
	"testing"
	"time"

	"loop.example/g00748/impl"
)

func checkSpeakers(t *testing.T, list []int, code int, profiles ...int) {
	t.Helper()
	if got, c := impl.SpeakersOf(list); c != code || !slices.Equal(got, profiles) {
		t.Errorf("SpeakersOf(%.60s) = %v, %d, want %v, %d", fmt.Sprint(list), got, c, profiles, code)
	}
}

func checkBest(t *testing.T, list []int, n, cost, code int) {
	t.Helper()
	if got, price, c := impl.BestFor(list); got != n || price != cost || c != code {
		t.Errorf("BestFor(%.60s) = %d, %d, %d, want %d, %d, %d", fmt.Sprint(list), got, price, c, n, cost, code)
	}
}

// checkNotSpoken checks a code of both functions, which stands alone.
func checkNotSpoken(t *testing.T, list []int, code int) {
	t.Helper()
	checkSpeakers(t, list, code)
	checkBest(t, list, 0, 0, code)
}

// P13: characters of one and of several sets.
func TestSpeakersOfLists(t *testing.T) {
	for _, v := range []struct {
		list     []int
		profiles []int
		best     string
		n        int
	}{
		{[]int{65, 10, 126}, []int{1, 2, 3, 4, 5}, "A\n~", impl.PrJp},
		{[]int{0, 32, 127}, []int{1, 2, 3, 4, 5}, "\x00 \x7f", impl.PrJp},
		{[]int{165}, []int{1, 2, 5}, "\xa5", impl.PrCt},
		{[]int{8254}, []int{1, 2, 5}, "\x1b(J~", impl.PrCt},
		{[]int{12354}, []int{1, 2, 3, 4, 5}, "\x1b$A$\"", impl.PrCt},
		{[]int{12449}, []int{1, 2, 4, 5}, "\x1b$A%!", impl.PrCt},
		{[]int{19968}, []int{1, 2, 4, 5}, "\x1b$B0!", impl.PrCt},
		{[]int{20062}, []int{2, 4, 5}, "\x1b$A0a", impl.PrCt},
		{[]int{44032, 65}, []int{2, 3, 4, 5}, "\x1b$)C\xb0\xa1A", impl.PrCt},
		{[]int{233}, []int{2, 5}, "\xe9", impl.PrCt},
		{[]int{913, 233}, []int{2, 5}, "\x1b-F\xc1\x1b-A\xe9", impl.PrCt},
		{[]int{65377}, []int{4, 5}, "\x1b)I\xa1", impl.PrCt},
		{[]int{44032, 65377}, []int{4, 5}, "\x1b$(C\x1b)I0!\xa1", impl.PrCt},
		// one profile only: 127 cannot follow a single shift, and no other has sets
		// of both
		{[]int{255}, []int{5}, "\xff", impl.PrCt},
		{[]int{65377, 233}, []int{5}, "\x1b)I\xa1\x1b-A\xe9", impl.PrCt},
		{[]int{165, 65377}, []int{5}, "\xa5\x1b)I\xa1", impl.PrCt},
	} {
		checkSpeakers(t, v.list, impl.OK, v.profiles...)
		checkBest(t, v.list, v.n, len(v.best), impl.OK)
		checkValid(t, v.n, v.best, v.list...)
	}
}

func TestSpeakersOfNoCharacters(t *testing.T) {
	for _, list := range [][]int{nil, {}, make([]int, 0, 5)} {
		checkSpeakers(t, list, impl.OK, 1, 2, 3, 4, 5)
		checkBest(t, list, impl.PrJp, 0, impl.OK)
	}
}

// checkUnmapped checks characters that no profile can encode, which is a code of
// BestFor only.
func checkUnmapped(t *testing.T, list []int) {
	t.Helper()
	checkSpeakers(t, list, impl.OK)
	checkBest(t, list, 0, 0, impl.ErrUnmapped)
}

// Characters that no profile can encode, alone and among others.
func TestCharactersWithoutSpeakers(t *testing.T) {
	for _, r := range []int{14, 15, 27, 128, 159, 256, impl.Missing, 128512, impl.MaxRune} {
		checkUnmapped(t, []int{r})
		checkUnmapped(t, []int{65, 10, r})
		checkUnmapped(t, []int{r, 12354, 65})
		checkUnmapped(t, append(slices.Repeat([]int{97}, impl.MaxChars-1), r))
		checkUnmapped(t, slices.Repeat([]int{r}, impl.MaxChars))
	}
}

// Of several profiles with the least cost the first one is returned, and it
// need not be the first one that can encode the characters.
func TestProfilesOfTheSameCost(t *testing.T) {
	costs := func(list []int, want ...int) {
		t.Helper()
		for i, cost := range want {
			if got, _, code := impl.CostOf(i+1, list); got != cost || (code == impl.OK) != (cost > 0) {
				t.Errorf("CostOf(%d, %v) = %d, %d, want %d", i+1, list, got, code, cost)
			}
		}
	}
	list := []int{65, 66, 10}
	costs(list, 3, 3, 7, 3, 3)
	checkBest(t, list, impl.PrJp, 3, impl.OK)
	// one line of hangul, kanji and ascii: shifts and single shifts against
	// designations
	list = slices.Repeat([]int{44032, 19968, 65}, 2)
	costs(list, 0, 30, 0, 26, 24)
	checkBest(t, list, impl.PrCt, 24, impl.OK)
	list = slices.Repeat([]int{44032, 19968, 65}, 3)
	costs(list, 0, 45, 0, 35, 35)
	checkBest(t, list, impl.PrCn, 35, impl.OK)
	list = slices.Repeat([]int{44032, 19968, 65}, 4)
	costs(list, 0, 60, 0, 44, 46)
	checkBest(t, list, impl.PrCn, 44, impl.OK)
	list = slices.Repeat([]int{44032, 65377, 65}, 4)
	costs(list, 0, 0, 0, 39, 44)
	checkBest(t, list, impl.PrCn, 39, impl.OK)
}

// speakersByDocument are the profiles whose sets contain all characters.
func speakersByDocument(all *codes, list []int) []int {
	var profiles []int
	for _, row := range profileTable {
		if !slices.ContainsFunc(list, func(r int) bool { return !row.canByDocument(all, r) }) {
			profiles = append(profiles, row.number)
		}
	}
	return profiles
}

// checkSpoken checks P13 for characters: the profiles are those in which
// CanEncode accepts each of them, and the best one is the first of those whose
// encoding is the shortest. It returns the best one.
func checkSpoken(t *testing.T, all *codes, list []int) int {
	t.Helper()
	profiles := speakersByDocument(all, list)
	checkSpeakers(t, list, impl.OK, profiles...)
	best, least := 0, math.MaxInt
	for n := 1; n <= impl.Profiles; n++ {
		rejects := func(r int) bool { can, code := impl.CanEncode(n, r); return !can || code != impl.OK }
		if speaks := slices.Contains(profiles, n); speaks == slices.ContainsFunc(list, rejects) {
			t.Errorf("SpeakersOf(%v) = %v, but %d with CanEncode is different", list, profiles, n)
		}
		text, _, code := impl.Encode(n, list)
		cost, _, _ := impl.CostOf(n, list)
		if slices.Contains(profiles, n) != (code == impl.OK) || cost != len(text) {
			t.Errorf("SpeakersOf(%v) = %v, but Encode(%d) = %q, %d and CostOf %d", list, profiles, n, text, code, cost)
		}
		if code == impl.OK && cost < least {
			best, least = n, cost
		}
	}
	if best == 0 {
		checkBest(t, list, 0, 0, impl.ErrUnmapped)
	} else {
		checkBest(t, list, best, least, impl.OK)
	}
	return best
}

func TestSpeakersOfEveryCharacter(t *testing.T) {
	t.Parallel()
	all := codesOfSets()
	for _, r := range charactersToTry() {
		checkSpoken(t, &all, []int{r})
		if t.Failed() {
			return
		}
	}
}

// Characters of one profile, and some that it or no profile can encode.
func TestSpeakersOfRandomLists(t *testing.T) {
	all := codesOfSets()
	eachProfile(t, func(t *testing.T, row profileRow) {
		source := rand.New(rand.NewSource(int64(row.number)))
		lists := row.characters(&all)
		for i := range 200 {
			list := randomList(source, lists, i%(impl.MaxChars+1))
			checkSpoken(t, &all, list)
			if i%4 == 0 {
				checkSpoken(t, &all, randomLoose(source, list))
			}
			if t.Failed() {
				return
			}
		}
	})
}

// Characters of several sets in turn, which several profiles can encode.
func TestSpeakersOfMixedLists(t *testing.T) {
	all := codesOfSets()
	source := rand.New(rand.NewSource(16))
	found := map[int]int{}
	for range 300 {
		base := []int{65, 44032, 19968, 19998, 65377, 165, 233, 913, 10, 12354}
		source.Shuffle(len(base), func(i, k int) { base[i], base[k] = base[k], base[i] })
		base = base[:1+source.Intn(4)]
		list := slices.Repeat(base, 1+source.Intn(impl.MaxChars/len(base)))
		found[checkSpoken(t, &all, list)]++
		if t.Failed() {
			return
		}
	}
	for _, n := range []int{impl.PrJp, impl.PrCn, impl.PrCt} {
		if found[n] == 0 {
			t.Errorf("%d is never the best profile: %v", n, found)
		}
	}
}

func TestListsOfMaxCharsForAnyProfile(t *testing.T) {
	full := func(r int) []int { return slices.Repeat([]int{r}, impl.MaxChars) }
	checkSpeakers(t, full(97), impl.OK, 1, 2, 3, 4, 5)
	checkBest(t, full(97), impl.PrJp, 60, impl.OK)
	checkSpeakers(t, full(233), impl.OK, 2, 5)
	checkBest(t, full(233), impl.PrCt, 60, impl.OK)
	for _, r := range []int{97, 233, 10, 0, 27, 128512} {
		checkNotSpoken(t, append(full(r), r), impl.ErrMany)
		checkNotSpoken(t, slices.Repeat([]int{r}, impl.MaxList), impl.ErrMany)
	}
}

// ErrLong, ErrMany, ErrRange and ErrUnmapped, in this order.
func TestOrderOfTheCodesOfSpeakers(t *testing.T) {
	for _, bad := range notCharacters {
		checkNotSpoken(t, []int{bad}, impl.ErrRange)
		checkNotSpoken(t, []int{65, bad}, impl.ErrRange)
		checkNotSpoken(t, []int{bad, 65}, impl.ErrRange)
		checkNotSpoken(t, []int{27, 65, bad}, impl.ErrRange)
		checkNotSpoken(t, append(slices.Repeat([]int{27}, impl.MaxChars-1), bad), impl.ErrRange)
		checkNotSpoken(t, append(slices.Repeat([]int{65}, impl.MaxChars), bad), impl.ErrMany)
		checkNotSpoken(t, append([]int{bad}, slices.Repeat([]int{27}, impl.MaxChars)...), impl.ErrMany)
		checkNotSpoken(t, slices.Repeat([]int{bad}, impl.MaxList), impl.ErrMany)
		checkNotSpoken(t, slices.Repeat([]int{bad}, impl.MaxList+1), impl.ErrLong)
	}
	for _, r := range []int{97, 27, 128512} {
		for _, size := range []int{impl.MaxList + 1, impl.MaxText, impl.MaxText + 1} {
			checkNotSpoken(t, slices.Repeat([]int{r}, size), impl.ErrLong)
		}
	}
}

// P1: neither the elements of a list nor its unused capacity change, and what a
// caller changes is in no other result.
func TestSpeakersShareNothing(t *testing.T) {
	for _, list := range [][]int{nil, {65, 12354, 10}, {44032, 65377}, {65, 27, 14}, {65, 55296}, slices.Repeat([]int{27}, 61)} {
		whole := append(slices.Clone(list), 7, 8, 9)
		before := slices.Clone(whole)
		impl.SpeakersOf(whole[:len(list)])
		impl.BestFor(whole[:len(list)])
		if !slices.Equal(whole, before) {
			t.Errorf("the argument %v is changed to %v", before, whole)
		}
	}
	list := []int{233, 12354}
	one, _ := impl.SpeakersOf(list)
	two, _ := impl.SpeakersOf(list)
	spoil(one)
	checkSpeakers(t, list, impl.OK, 2, 5)
	list[0] = 65377
	if !slices.Equal(two, []int{2, 5}) {
		t.Error("a result of SpeakersOf changed with its argument or another result", two)
	}
	checkSpeakers(t, list, impl.OK, 4, 5)
}

// detectionCalls are calls whose goroutines come to their ends in any order,
// because they have more or less to do.
func detectionCalls(t *testing.T) {
	t.Helper()
	checkDetected(t, "AB\n", [...]int{3, 3, 0, 3, 3}, 1, 2, 4, 5)
	checkDetected(t, "\x1b$)C\x0e0!\x0f", [...]int{0, 0, 8, 8, 4}, 3, 4)
	checkDetected(t, "A\x1b$)A\xb0\xa1", [...]int{1, 1, 0, 5, 7}, 5)
	checkDetected(t, "\x80", [...]int{0, 0, 0, 0, 0})
	checkNotDetected(t, string(make([]byte, impl.MaxList+1)), impl.ErrSize)
	checkDetectAll(t, []string{"A", "\x1b", "$)A\x0e0!\x0f"}, impl.OK, 4)
	checkSpeakers(t, []int{65, 10}, impl.OK, 1, 2, 3, 4, 5)
	checkSpeakers(t, []int{65377, 44032}, impl.OK, 4, 5)
	checkBest(t, []int{65, 10}, impl.PrJp, 2, impl.OK)
	checkBest(t, slices.Repeat([]int{44032, 19968, 65}, 3), impl.PrCn, 35, impl.OK)
	checkUnmapped(t, []int{27})
	checkNotSpoken(t, []int{-1}, impl.ErrRange)
}

// P1 and rules 5 and 6 of ../shared/LANGUAGE.md: the same calls many times, from
// one goroutine and from several at once, have the same results each time, and
// none of their goroutines is left.
func TestDetectionManyTimes(t *testing.T) {
	before := runtime.NumGoroutine()
	for range 200 {
		detectionCalls(t)
	}
	var all sync.WaitGroup
	for range 8 {
		all.Go(func() {
			for range 50 {
				detectionCalls(t)
			}
		})
	}
	all.Wait()
	for range 100 {
		if runtime.NumGoroutine() <= before {
			return
		}
		time.Sleep(10 * time.Millisecond)
	}
	t.Errorf("%d goroutines, %d before", runtime.NumGoroutine(), before)
}
