package tests

import (
	"fmt"
	"math"
	"slices"
	"strings"
	"sync"
	"testing"

	"loop.example/g00748/impl"
)

// Arguments for P1: ordinary ones, limits, and invalid ones.
var hostileInts = []int{math.MinInt, math.MinInt + 1, math.MinInt32, -65536, -1, 0, 1, 2, 12, 18, 19, 65, 127, 128, 2048, 4096, 55296, 57343,
	65535, 65536, 65537, 1114111, 1114112, math.MaxInt32, 1 << 32, math.MaxInt - 1, math.MaxInt}

func hostileTexts() []string {
	list := []string{"", "a", "_a9", "9a", "ok", "header", "00ff", "0G", "000", "A\xe3\x81\x82\n", "\xc2", "\xc0\x80", "\xed\xa0\x80", "\xf4\x90\x80\x80",
		"\xf8\x88\x80\x80\x80", "\xef\xbf\xbd", "\x1b$B", "\xff\xfe", "\xf0\x9f\x98\x80\xf0\x9f"}
	for _, n := range []int{impl.MaxName, impl.MaxName + 1, impl.MaxList, impl.MaxList + 1, impl.MaxText / 2, impl.MaxText/2 + 1, impl.MaxText, impl.MaxText + 1, 3 * impl.MaxText} {
		list = append(list, strings.Repeat("a", n), strings.Repeat("\xe3\x81\x82", n/3), strings.Repeat("\xff", n))
	}
	return list
}

func hostileLists() [][]int {
	list := [][]int{nil, {}, {65}, {65, 12354, 128512}, hostileInts}
	for _, n := range []int{impl.MaxList, impl.MaxList + 1, impl.MaxText + 1} {
		list = append(list, make([]int, n), slices.Repeat([]int{1114112}, n))
	}
	return list
}

// A call yields all results of one call in one text.
type call func() string

func stageCalls() []call {
	var calls []call
	for _, n := range hostileInts {
		calls = append(calls,
			func() string { return fmt.Sprint("CodeWord", impl.CodeWord(n)) },
			func() string { return fmt.Sprint("RuneOK", impl.RuneOK(n)) },
			func() string { s, code := impl.PutRune(n); return fmt.Sprintf("PutRune %x %d", s, code) })
	}
	for _, s := range hostileTexts() {
		calls = append(calls,
			func() string { return fmt.Sprint("NameOK", impl.NameOK(s)) },
			func() string { return fmt.Sprint("CodeOf", impl.CodeOf(s)) },
			func() string { list, at, code := impl.RunesOf(s); return fmt.Sprint("RunesOf", list, at, code) },
			func() string { return "HexOf " + impl.HexOf(s) },
			func() string { b, code := impl.BytesOf(s); return fmt.Sprintf("BytesOf %x %d", b, code) })
		for _, at := range hostileInts {
			calls = append(calls, func() string { r, next, code := impl.TakeRune(s, at); return fmt.Sprint("TakeRune", r, next, code) })
		}
	}
	for _, list := range hostileLists() {
		calls = append(calls, func() string { s, code := impl.TextOf(list); return fmt.Sprintf("TextOf %x %d", s, code) })
	}
	return slices.Concat(calls, setCalls(), tokenCalls(), machineCalls(), profileCalls(), decodeCalls(), encodeCalls(), pieceCalls(), lineCalls(), detectCalls(), changeCalls())
}

func setCalls() []call {
	var calls []call
	for _, n := range append(slices.Clone(hostileInts), 3, 4, 5, 6, 7, 8, 9) {
		calls = append(calls,
			func() string { set, code := impl.SetOf(n); return fmt.Sprint("SetOf", set, code) },
			func() string { size, code := impl.SizeOf(n); return fmt.Sprint("SizeOf", size, code) },
			func() string { return fmt.Sprint("SetsFor", impl.SetsFor(n)) })
		for _, m := range append(slices.Clone(hostileInts), 33, 66, 126, 8254, 9249, 9331, 9332, 12354) {
			calls = append(calls,
				func() string { set, code := impl.FindSet(n, m); return fmt.Sprint("FindSet", set, code) },
				func() string { return fmt.Sprint("CodeOK", impl.CodeOK(n, m)) },
				func() string { r, code := impl.RuneFor(n, m); return fmt.Sprint("RuneFor", r, code) },
				func() string { c, code := impl.CodeFor(n, m); return fmt.Sprint("CodeFor", c, code) })
		}
	}
	for _, s := range append(hostileTexts(), "ascii", "hanzi", "Hanzi") {
		calls = append(calls, func() string { set, code := impl.SetNamed(s); return fmt.Sprint("SetNamed", set, code) })
	}
	return calls
}

func tokenCalls() []call {
	var calls []call
	texts := append(hostileTexts(), "\x1b", "\x1b$", "\x1b$(", "\x1b$(B", "\x1b((((", "\x1b\x1b\x0e\x8f \x9f", "\x1b$\n\x1bn\x1bO", strings.Repeat("\x1b$)C", impl.MaxList))
	for _, s := range texts {
		calls = append(calls, func() string { list, code := impl.TokensOf(s); return fmt.Sprint("TokensOf", list, code) })
		for _, at := range hostileInts {
			calls = append(calls, func() string { x, code := impl.NextToken(s, at); return fmt.Sprint("NextToken", x, code) })
		}
	}
	for _, n := range append(slices.Clone(hostileInts), 3, 4, 5, 6, 7, 8, 9) {
		for _, m := range hostileInts {
			calls = append(calls, func() string { s, code := impl.EscapeOf(m, n); return fmt.Sprintf("EscapeOf %x %d", s, code) })
			for _, x := range []impl.Token{newToken(n, m, 0, 0, 0, 1), newToken(7, 1, n, m, 0, 3), newToken(9, 0, 0, 0, n, m), newToken(n, m, n, m, n, m)} {
				calls = append(calls, func() string { s, code := impl.TokenText(x); return fmt.Sprint("TokenText", s, code) })
			}
		}
	}
	return calls
}

func machineCalls() []call {
	calls := []call{func() string { return fmt.Sprint("StartState", impl.StartState()) }}
	states := append(smallStates(), impl.State{}, impl.State{G0: 4}, impl.State{G0: 1, Left: 4}, impl.State{G0: 1, Single: -1}, impl.State{G0: 1, Lead: 36},
		impl.State{G0: math.MaxInt, G1: math.MinInt, G2: math.MaxInt, G3: math.MinInt, Left: math.MaxInt, Single: math.MinInt, Lead: math.MaxInt},
		impl.State{G0: 6, G1: 6, Lead: math.MinInt}, impl.State{G0: 6, G1: 6, Lead: math.MaxInt})
	texts := append(hostileTexts(), "\x1b", "\x1b$B$\"", "\x1b$B$\n", "\x1b.A\x1bN \x8e\xe9", "\x1b$)C\x0e0!\x0f", "\"$\"", "\xa2\xa4", strings.Repeat("\x1b$)C", impl.MaxList))
	for _, s := range states {
		calls = append(calls,
			func() string { return fmt.Sprint("StateOK", impl.StateOK(s)) },
			func() string { return fmt.Sprint("Pending", impl.Pending(s)) })
		for _, n := range append(slices.Clone(hostileInts), 3, 4, 5, 6, 7, 8, 9) {
			calls = append(calls,
				func() string { set, code := impl.RegisterOf(s, n); return fmt.Sprint("RegisterOf", set, code) },
				func() string { x, code := impl.NameSet(s, n, 6); return fmt.Sprint("NameSet", x, code) },
				func() string { x, code := impl.NameSet(s, 2, n); return fmt.Sprint("NameSet", x, code) },
				func() string { x, code := impl.NameSet(s, n, n); return fmt.Sprint("NameSet", x, code) })
			for _, x := range []impl.Token{newToken(n, 65, 0, 0, 0, 1), newToken(3, n, 0, 0, 0, 1), newToken(4, n, 0, 0, 0, 1), newToken(7, n, 3, 66, 0, 4), newToken(7, 1, n, 66, 0, 3), newToken(n, n, n, n, n, n)} {
				calls = append(calls, func() string {
					y, r, made, code := impl.StepState(s, x)
					return fmt.Sprint("StepState", y, r, made, code)
				})
			}
		}
		for _, text := range texts {
			calls = append(calls, func() string {
				x, list, at, code := impl.RunState(s, text)
				return fmt.Sprint("RunState", x, list, at, code)
			})
		}
	}
	return calls
}

func profileCalls() []call {
	var calls []call
	for _, s := range append(hostileTexts(), "jp", "ct", "Jp") {
		calls = append(calls, func() string { n, code := impl.ProfileNamed(s); return fmt.Sprint("ProfileNamed", n, code) })
	}
	states := append(smallStates(), impl.State{}, impl.State{G0: 4}, impl.State{G0: 1, Left: math.MinInt}, impl.State{G0: 6, G1: 6, Lead: math.MaxInt})
	tokens := append(tokensOfEveryKind(), noToken, newToken(math.MaxInt, 0, 0, 0, 0, 1), newToken(math.MinInt, 0, 0, 0, 0, 1), newToken(7, math.MaxInt, 1, 66, 0, 3), newToken(7, math.MinInt, 1, 66, 0, 3),
		newToken(7, 1, math.MaxInt, 66, 0, 3), newToken(7, 1, 1, math.MinInt, 0, 3), newToken(6, 2, 0, 0, math.MaxInt, 2), newToken(6, 2, 0, 0, 0, math.MaxInt))
	for _, n := range append(slices.Clone(hostileInts), 3, 4, 5, 6) {
		calls = append(calls,
			func() string {
				p, code := impl.ProfileOf(n)
				return fmt.Sprintf("ProfileOf %q %d", fmt.Sprint(p), code)
			},
			func() string { s, code := impl.StartOf(n); return fmt.Sprint("StartOf", s, code) })
		for _, x := range tokens {
			calls = append(calls, func() string { yes, code := impl.AllowsToken(n, x); return fmt.Sprint("AllowsToken", yes, code) })
		}
		for _, s := range states {
			calls = append(calls,
				func() string { yes, code := impl.AtRest(n, s); return fmt.Sprint("AtRest", yes, code) },
				func() string { x, code := impl.LineEnd(n, s); return fmt.Sprint("LineEnd", x, code) })
			for _, x := range tokens {
				calls = append(calls, func() string {
					y, r, made, code := impl.StepProfile(n, s, x)
					return fmt.Sprint("StepProfile", y, r, made, code)
				})
			}
		}
	}
	return calls
}

func decodeCalls() []call {
	var calls []call
	texts := append(hostileTexts(), "\x1b", "\x1b$B$\"\n", "\x1b$B$\nA\x1b(B", "\x1b.F\x1bN\n\x1bNA", "\x1b$)C", "\x1b$)C\x0e0!\x0f\n\x0e", "\xe9\x1b$)B\xa4\n\xa4\xa2", strings.Repeat("\x0e\n", impl.MaxList/2))
	for _, v := range validTexts {
		texts = append(texts, v.text)
	}
	for _, n := range append(slices.Clone(hostileInts), 3, 4, 5, 6) {
		for _, s := range texts {
			calls = append(calls,
				func() string { list, at, code := impl.Decode(n, s); return fmt.Sprint("Decode", list, at, code) },
				func() string { valid, code := impl.ValidText(n, s); return fmt.Sprint("ValidText", valid, code) },
				func() string { at, code := impl.GoodUpTo(n, s); return fmt.Sprint("GoodUpTo", at, code) },
				func() string { list, code := impl.DecodeLoose(n, s); return fmt.Sprint("DecodeLoose", list, code) })
		}
	}
	return calls
}

func encodeCalls() []call {
	var calls []call
	states := append(smallStates(), impl.State{}, impl.State{G0: 4}, impl.State{G0: 1, G1: 4}, impl.State{G0: 1, Left: math.MinInt}, impl.State{G0: 6, G1: 6, Lead: math.MaxInt})
	lists := append(hostileLists(), []int{27}, []int{65, 233, 10, 12354}, []int{44032, 10, 19968, 65377}, slices.Repeat([]int{12354, 65}, 30), slices.Repeat([]int{97}, 61), []int{165, -1})
	for _, v := range validTexts {
		lists = append(lists, v.chars)
	}
	for _, n := range append(slices.Clone(hostileInts), 3, 4, 5, 6) {
		for _, s := range states {
			calls = append(calls, func() string {
				texts, next, code := impl.MovesOf(n, s)
				return fmt.Sprintf("MovesOf %q %v %d", texts, next, code)
			})
			for _, r := range append(slices.Clone(hostileInts), 10, 14, 32, 233, 12354, 19998) {
				calls = append(calls, func() string { forms, code := impl.FormsOf(n, s, r); return fmt.Sprintf("FormsOf %q %d", forms, code) })
			}
		}
		for _, r := range append(slices.Clone(hostileInts), 10, 14, 32, 255, 12354, 65377) {
			calls = append(calls, func() string { can, code := impl.CanEncode(n, r); return fmt.Sprint("CanEncode", can, code) })
		}
		for _, list := range lists {
			calls = append(calls,
				func() string { s, at, code := impl.Encode(n, list); return fmt.Sprintf("Encode %q %d %d", s, at, code) },
				func() string { cost, at, code := impl.CostOf(n, list); return fmt.Sprint("CostOf", cost, at, code) })
			for _, mark := range []int{63, 233, 27, -1, math.MaxInt} {
				calls = append(calls, func() string {
					s, code := impl.EncodeLoose(n, list, mark)
					return fmt.Sprintf("EncodeLoose %q %d", s, code)
				})
			}
		}
	}
	return calls
}

func pieceCalls() []call {
	var calls []call
	decoders := []impl.Decoder{{}, {Profile: 1, State: impl.State{G0: 4}}, {Profile: 3, State: impl.State{G0: 1}, Rest: "\x1b$"}, {Profile: 3, State: impl.State{G0: 1}, Rest: "\x1b("},
		{Profile: 1, At: maxBytes, State: impl.State{G0: 6, Lead: 36}, Rest: "\x1b(", Begun: true}, {Profile: 2, At: 9, State: impl.State{G0: 6, G2: 5, Single: 2}, Begun: true},
		{Profile: 4, State: impl.State{G0: 1}, Over: true}, {Profile: 5, Code: 11, State: impl.State{G0: 1}, Over: true}, {Profile: 5, Code: 11, State: impl.State{G0: 1}}, {Profile: 1, State: impl.State{G0: 1}, Rest: "\x1b", Over: true}}
	for i, n := range append(slices.Clone(hostileInts), 3, 4, 5, 6) {
		s := impl.State{G0: 1, G1: 7}
		*field(&s, i%7) = n
		decoders = append(decoders,
			impl.Decoder{Profile: n, State: impl.State{G0: 1}},
			impl.Decoder{Profile: 3, At: n, State: impl.State{G0: 1}, Begun: true},
			impl.Decoder{Profile: 3, Code: n, State: impl.State{G0: 1}, Over: true},
			impl.Decoder{Profile: 3, State: s, Begun: true},
			impl.Decoder{Profile: n, At: n, Code: n, State: s, Begun: true, Over: true})
		calls = append(calls, func() string { d, code := impl.NewDecoder(n); return fmt.Sprintf("NewDecoder %+v %d", d, code) })
	}
	texts := append(hostileTexts(), "\x1b", "\x1b$", "$)C\x0e0!\x0f\x1b(", "B$\"\n", "\"A\n\x1b((((", "\x1b$)C", "\xe9\x80\x1b$")
	for _, text := range texts {
		d := impl.Decoder{Profile: 3, State: impl.State{G0: 1}, Rest: text}
		begun, over := d, d
		begun.Begun, over.Over = true, true
		decoders = append(decoders, d, begun, over)
	}
	for _, d := range decoders {
		calls = append(calls,
			func() string { return fmt.Sprint("DecoderOK", impl.DecoderOK(d)) },
			func() string { x, code := impl.CloseDecoder(d); return fmt.Sprintf("CloseDecoder %+v %d", x, code) })
		for _, text := range texts {
			calls = append(calls, func() string {
				x, list, code := impl.WritePiece(d, text)
				return fmt.Sprintf("WritePiece %+v %v %d", x, list, code)
			})
		}
	}
	lists := [][]string{nil, {}, {""}, texts,
		{"\x1b", "$)C\x0e", "0", "!\x0f\n"}, {"A", "\x1b$B$", "\"", "\x1b(B"}, {"A", "\x80", "B", "C"}, {"\xe9", "\x1b", "$B$", "\x1b("},
		make([]string, impl.MaxList), make([]string, impl.MaxList+1), slices.Repeat([]string{"\n"}, impl.MaxList), slices.Repeat([]string{"\x1b", "(B"}, 1000), slices.Repeat([]string{longestPiece}, impl.MaxList)}
	for _, n := range append(slices.Clone(hostileInts), 3, 4, 5, 6) {
		for _, pieces := range lists {
			calls = append(calls, func() string {
				list, at, code := impl.DecodePieces(n, pieces)
				return fmt.Sprint("DecodePieces", list, at, code)
			})
		}
	}
	return calls
}

func lineCalls() []call {
	var calls []call
	encoders := []impl.Encoder{{}, {Profile: 1, Rest: "a"}, {Profile: 2, Count: 9, Rest: "\xe3\x81", Line: []int{65, 233}}, {Profile: 3, Count: maxCount, Line: []int{44032}, Begun: true},
		{Profile: 5, Count: 60, Line: slices.Repeat([]int{233, 12354}, 30)}, {Profile: 4, Count: impl.MaxText + 1, Line: make([]int, impl.MaxText+1)}, {Profile: 4, Over: true}, {Profile: 4, Code: 16, Over: true}, {Profile: 4, Code: 16}}
	for _, n := range append(slices.Clone(hostileInts), 3, 4, 5, 6) {
		encoders = append(encoders, impl.Encoder{Profile: n}, impl.Encoder{Profile: 3, Count: n}, impl.Encoder{Profile: 3, Code: n, Over: true}, impl.Encoder{Profile: 5, Count: 1, Line: []int{n}},
			impl.Encoder{Profile: n, Count: n, Code: n, Line: []int{n, n}, Begun: true, Over: true})
		calls = append(calls, func() string { e, code := impl.NewEncoder(n); return fmt.Sprintf("NewEncoder %+v %d", e, code) })
	}
	texts := append(hostileTexts(), "\x81\x82", "\xa9A\n", "\xea\xb0\x80\n\xe3", "\xc3\xa9\xe3\x81\x82\n\n", "A\x1bB", "A\n\xe3\x81A", strings.Repeat("a\n", 1000))
	for _, text := range texts {
		encoders = append(encoders, impl.Encoder{Profile: 2, Rest: text}, impl.Encoder{Profile: 2, Rest: text, Over: true})
	}
	for i, e := range encoders {
		calls = append(calls,
			func() string { return fmt.Sprint("EncoderOK", impl.EncoderOK(e), impl.SameEncoder(e, encoders[i/2])) },
			func() string {
				x, out, code := impl.CloseEncoder(e)
				return fmt.Sprintf("CloseEncoder %+v %q %d", x, out, code)
			})
		for _, text := range texts {
			calls = append(calls, func() string {
				x, out, code := impl.WriteText(e, text)
				return fmt.Sprintf("WriteText %+v %q %d", x, out, code)
			})
		}
	}
	lists := [][]string{nil, {}, {""}, texts, {"A\n\xe3", "\x81", "", "\x82\n"}, {"\xc3", "\xa9\xe3"}, {"\xea\xb0\x80\n", "\xff", "B"}, slices.Repeat([]string{"\xe3", "\x81\x82\n"}, 500),
		make([]string, impl.MaxList), make([]string, impl.MaxList+1), slices.Repeat([]string{"\n"}, impl.MaxList), slices.Repeat([]string{longestPiece}, impl.MaxList)}
	for _, n := range append(slices.Clone(hostileInts), 3, 4, 5, 6) {
		for _, pieces := range lists {
			calls = append(calls, func() string {
				out, count, code := impl.EncodePieces(n, pieces)
				return fmt.Sprintf("EncodePieces %q %d %d", out, count, code)
			})
		}
	}
	for _, list := range append(hostileLists(), []int{10}, []int{65, 10, 10, 66}, []int{10, -1}, slices.Repeat([]int{10}, impl.MaxList)) {
		calls = append(calls, func() string { lines, code := impl.LinesOf(list); return fmt.Sprint("LinesOf", lines, code) })
	}
	return calls
}

func detectCalls() []call {
	var calls []call
	texts := append(hostileTexts(), "\x1b", "\x1b$", "\x1b$)C", "\x1b$)C\n\x0e0!\x0f", "\x1b$B$\"", "\x1b.A\x1bNi", "\x0e\x0f", "A\x80", strings.Repeat("\x1b$)C", impl.MaxList/4))
	lists := append(hostileLists(), []int{27}, []int{65, 27, -1}, []int{255}, slices.Repeat([]int{44032, 19968, 65}, 3), slices.Repeat([]int{97}, 61))
	for _, v := range validTexts {
		texts, lists = append(texts, v.text), append(lists, v.chars)
	}
	for _, n := range hostileInts {
		lists = append(lists, []int{n}, []int{65, n, 65})
	}
	for _, s := range texts {
		calls = append(calls,
			func() string { list, code := impl.Detect(s); return fmt.Sprint("Detect", list, code) },
			func() string { list, code := impl.FirstFault(s); return fmt.Sprint("FirstFault", list, code) },
			func() string { list, code := impl.DetectAll([]string{s}); return fmt.Sprint("DetectAll", list, code) },
			func() string {
				list, code := impl.DetectAll(singleBytes(s, true))
				return fmt.Sprint("DetectAll", list, code)
			})
	}
	for _, pieces := range [][]string{nil, {}, {"", ""}, texts, make([]string, impl.MaxList), make([]string, impl.MaxList+1), slices.Repeat([]string{longestPiece}, impl.MaxList)} {
		calls = append(calls, func() string { list, code := impl.DetectAll(pieces); return fmt.Sprint("DetectAll", list, code) })
	}
	for _, list := range lists {
		calls = append(calls,
			func() string {
				profiles, code := impl.SpeakersOf(list)
				return fmt.Sprint("SpeakersOf", profiles, code)
			},
			func() string { n, cost, code := impl.BestFor(list); return fmt.Sprint("BestFor", n, cost, code) })
	}
	return calls
}

func changeCalls() []call {
	var calls []call
	texts := append(hostileTexts(), "\x1b", "\x1b$)C", "\x1b$)C\x0e0!\x0f", "\x1b(B\x1b$B$\"\x1b(B", "A\xe9", "A\x80\x1bNB", strings.Repeat("\x1b(B", impl.MaxList/3))
	for _, v := range validTexts {
		texts = append(texts, v.text)
	}
	for _, n := range append(slices.Clone(hostileInts), 3, 4, 5, 6) {
		for _, s := range texts {
			calls = append(calls,
				func() string { return changed(impl.Transcode(n, impl.PrJp2, s)) },
				func() string { return changed(impl.Transcode(impl.PrCt, n, s)) },
				func() string { return changed(impl.ToUtf(n, s)) },
				func() string { return changed(impl.FromUtf(n, s)) },
				func() string { return changed(impl.Shorten(n, s)) },
				func() string { waste, code := impl.Wasted(n, s); return fmt.Sprint("Wasted", waste, code) },
				func() string {
					text, code := impl.TranscodeLoose(n, impl.PrJp, s, 63)
					return fmt.Sprintf("%q %d", text, code)
				},
				func() string {
					text, code := impl.TranscodeLoose(impl.PrKr, impl.PrCt, s, n)
					return fmt.Sprintf("%q %d", text, code)
				})
		}
	}
	return calls
}

func changed(text string, at, code int) string {
	return fmt.Sprintf("%q %d %d", text, at, code)
}

// P1: equal arguments yield equal results, whatever was called before and
// whatever is called at the same time. A panic ends the test.
func TestResultsDoNotDependOnEarlierCalls(t *testing.T) {
	calls := stageCalls()
	first := make([]string, len(calls))
	for i, c := range calls {
		first[i] = c()
	}
	for i := len(calls) - 1; i >= 0; i-- {
		if again := calls[i](); again != first[i] {
			t.Errorf("call %d: first %.60s, then %.60s", i, first[i], again)
		}
	}
	var all sync.WaitGroup
	for range 4 {
		all.Go(func() {
			for i, c := range calls {
				if again := c(); again != first[i] {
					t.Errorf("call %d: first %.60s, at the same time %.60s", i, first[i], again)
				}
			}
		})
	}
	all.Wait()
}

// P1: neither the elements of an argument nor its unused capacity change.
func TestTextOfKeepsItsArgument(t *testing.T) {
	for _, list := range [][]int{{65, 12354, 128512}, {65, 55296, 66}, {}, slices.Repeat([]int{65}, impl.MaxList), slices.Repeat([]int{-1}, impl.MaxList+1)} {
		whole := append(slices.Clone(list), 7, 8, 9)
		before := slices.Clone(whole)
		impl.TextOf(whole[:len(list)])
		if !slices.Equal(whole, before) {
			t.Errorf("TextOf changed its argument of %d elements", len(list))
		}
	}
}

// Convention 3: a result is new memory.
func TestRunesOfReturnsNewMemory(t *testing.T) {
	const text = "A\xe3\x81\x82\n"
	want := []int{65, 12354, 10}
	one, _, _ := impl.RunesOf(text)
	two, _, _ := impl.RunesOf(text)
	for i := range one[:cap(one)] {
		one[:cap(one)][i] = -1
	}
	three, _, _ := impl.RunesOf(text)
	if !slices.Equal(two, want) || !slices.Equal(three, want) {
		t.Error("the results of RunesOf share memory", two, three)
	}
}

// A caller who changes the spans of a set changes no other result.
func TestSetOfReturnsNewMemory(t *testing.T) {
	for _, row := range setTable {
		one, _ := impl.SetOf(row.number)
		two, _ := impl.SetOf(row.number)
		for i := range one.Spans[:cap(one.Spans)] {
			one.Spans[:cap(one.Spans)][i] = impl.Span{Code: 40, Rune: 1000, Count: 5000}
		}
		three, _ := impl.SetOf(row.number)
		if !row.sameSpans(two.Spans) || !row.sameSpans(three.Spans) {
			t.Errorf("the results of SetOf(%d) share memory: %v, %v", row.number, two.Spans, three.Spans)
		}
		if size, code := impl.SizeOf(row.number); size != row.size || code != impl.OK {
			t.Errorf("SizeOf(%d) changed with a result of SetOf: %d, %d", row.number, size, code)
		}
		for code, r := range row.characters() {
			checkCode(t, row.number, code, r, impl.OK)
			checkRune(t, row.number, r, code, impl.OK)
		}
		checkRune(t, row.number, 1000, 0, impl.ErrUnmapped)
	}
	if list := impl.SetsFor(1000); len(list) != 0 {
		t.Error("SetsFor(1000) changed with a result of SetOf:", list)
	}
}

func TestSetsForReturnsNewMemory(t *testing.T) {
	want := []int{6, 7, 8}
	one := impl.SetsFor(12354)
	two := impl.SetsFor(12354)
	for i := range one[:cap(one)] {
		one[:cap(one)][i] = -1
	}
	three := impl.SetsFor(12354)
	if !slices.Equal(two, want) || !slices.Equal(three, want) {
		t.Error("the results of SetsFor share memory", two, three)
	}
}

func TestTokensOfReturnsNewMemory(t *testing.T) {
	const text = "A\x1b$B\n"
	want := []impl.Token{newToken(impl.TkLeft, 65, 0, 0, 0, 1), newToken(impl.TkName, 0, 3, 66, 1, 3), newToken(impl.TkControl, 10, 0, 0, 4, 1)}
	one, _ := impl.TokensOf(text)
	two, _ := impl.TokensOf(text)
	for i := range one[:cap(one)] {
		one[:cap(one)][i] = newToken(-1, -1, -1, -1, -1, -1)
	}
	three, _ := impl.TokensOf(text)
	if !slices.Equal(two, want) || !slices.Equal(three, want) {
		t.Error("the results of TokensOf share memory", two, three)
	}
}

// Also beside a code of a step.
func TestRunStateReturnsNewMemory(t *testing.T) {
	for _, text := range []string{"A\x1b$B$\"\n", "A\x1b$B$\"\n\x80"} {
		want := []int{65, 12354, 10}
		_, one, _, _ := impl.RunState(impl.StartState(), text)
		_, two, _, _ := impl.RunState(impl.StartState(), text)
		for i := range one[:cap(one)] {
			one[:cap(one)][i] = -1
		}
		_, three, _, _ := impl.RunState(impl.StartState(), text)
		if !slices.Equal(two, want) || !slices.Equal(three, want) {
			t.Error("the results of RunState share memory", two, three)
		}
	}
}

// Convention 2: an empty slice and nil are the same argument.
func TestEmptyAndNilAreTheSameArgument(t *testing.T) {
	a, ca := impl.TextOf(nil)
	b, cb := impl.TextOf([]int{})
	if a != b || ca != cb || ca != impl.OK {
		t.Error("TextOf", a, ca, b, cb)
	}
}
