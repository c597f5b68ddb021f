package tests

import (
	"math"
	"slices"
	"strings"
	"testing"
	"unsafe"

	"loop.example/g00328/impl"
)

// judgedWorlds are worlds of which all is right, one thing is wrong, and that are no
// worlds at all.
func judgedWorlds() []impl.World {
	list := append(oddWorlds(), justWorld())
	for _, wrong := range wrongs() {
		list = append(list, worldWith(justWorld(), wrong.turn))
	}
	return list
}

func TestJudgesWriteIntoNothing(t *testing.T) {
	for i, was := range judgedWorlds() {
		w := roomyWorld(was)
		one := judge(w)
		if !untouchedWorld(w, was) {
			t.Fatal(i, "written into:", toldWorld(was))
		}
		if two := judge(w); one != judgedByWord(was) || two != one {
			t.Fatal(i, "another answer:", one, two, toldWorld(was))
		}
	}
}

// The lists of a world may share memory with each other, and its spare room with
// what is judged.
func TestJudgesOfOneMemory(t *testing.T) {
	w := justWorld()
	bodies := []int{1000, 1001, 1002}
	w.Told, w.Talks[0].Server.Got, w.Talks[1].Server.Got = bodies[1:2], bodies[:1], bodies[:2]
	x := terms{atom(1001), hash(atom(1001)), pair(atom(1001), atom(1001))}
	w.Known, w.Calls[3].Client.Share, w.Talks[1].Server.Share = x, x[2], x[2]
	letters, calls, talks := slices.Clone(w.Letters), slices.Clone(w.Calls), slices.Clone(w.Talks)
	w.Letters, w.Calls, w.Talks = letters[:3], calls[:2], talks
	asJudged(t, "of one memory", w, just())
	if !slices.Equal(bodies, []int{1000, 1001, 1002}) || !alike(x, terms{atom(1001), hash(atom(1001)), pair(atom(1001), atom(1001))}) || !sameCall(calls[2], justWorld().Calls[2]) {
		t.Error("written into")
	}
}

// What was judged before is nothing to an answer: not by another world, nor by the
// same memory with something else in it.
func TestJudgesKeepNothing(t *testing.T) {
	given := judgedWorlds()
	var first []verdict
	for _, w := range given {
		first = append(first, judge(w))
	}
	for i := len(given) - 1; i >= 0; i-- {
		if again := judge(given[i]); again != first[i] {
			t.Fatal(i, again, first[i])
		}
	}
	w := justWorld()
	asJudged(t, "as it was", w, just())
	at := len(w.Known) - 1
	w.Known[at] = atom(1002)
	asJudged(t, "known", w, verdict{held: true, taken: true, book: true})
	w.Known[at] = atom(1001)
	w.Told[0] = 1002
	asJudged(t, "told", w, verdict{held: true, taken: true, book: true})
	w.Told[0] = 1001
	w.Talks[1].Server.Got[1] = 1001
	asJudged(t, "got", w, verdict{secret: true, held: true, book: true})
	w.Talks[1].Server.Got[1] = 1000
	w.Letters[2].Domain = "d"
	asJudged(t, "letters", w, verdict{secret: true, held: true, taken: true})
	w.Letters[2].Domain = "c"
	asJudged(t, "as it was again", w, just())
}

// The bytes of the texts are written over between two calls: the second one sees
// what is there then.
func TestJudgesReadWhatIsThere(t *testing.T) {
	bytes := []byte(justWorld().Book)
	w := justWorld()
	w.Book = unsafe.String(&bytes[0], len(bytes))
	asJudged(t, "as it was", w, just())
	bytes[len(bytes)-2] = '3'
	asJudged(t, "another body", w, verdict{secret: true, held: true, taken: true})
	bytes[len(bytes)-2] = '2'
	asJudged(t, "as it was again", w, just())
}

func TestJudgesInAnyOrder(t *testing.T) {
	type asks func(w impl.World) bool
	all := map[string]asks{"secret": impl.JudgeSecret, "held": impl.JudgeHeld, "taken": impl.JudgeTaken, "book": impl.JudgeBook, "all": impl.JudgeAll}
	for i, w := range judgedWorlds() {
		for what, one := range all {
			want := one(w)
			for beside, other := range all {
				other(w)
				if one(w) != want {
					t.Fatal(i, what, "behind", beside)
				}
			}
		}
	}
}

// Each number at its ends, and each place of them.
func TestJudgesAtTheEndsOfNumbers(t *testing.T) {
	for _, w := range []impl.World{justWorld(), someWorld(), bareWorld()} {
		for what, p := range worldNumbers(w) {
			for _, n := range append(farNumbers(), p.least-1, p.least, p.least+1, p.most-1, p.most, p.most+1) {
				byWord(t, what, worldWith(w, p.to(n)))
			}
		}
		for _, n := range farNumbers() {
			for _, turn := range []func(w *impl.World){
				func(w *impl.World) {
					w.Calls = []impl.Call{{Letter: n, Client: callAt(impl.ClDone, 15).Client, Good: true}}
				},
				func(w *impl.World) {
					w.Calls = []impl.Call{{Client: clientWith(callAt(n, 15).Client, nothing), Good: true}}
				},
				func(w *impl.World) { w.Talks = []impl.Talk{{Host: n, Server: thatGot(openServer(1), n)}} },
				func(w *impl.World) { w.Talks = []impl.Talk{{Server: thatGot(openServer(n), 1)}} },
				func(w *impl.World) { w.Known = append(w.Known, atom(n), impl.Term{Op: n}) },
				func(w *impl.World) { w.Told = append(w.Told, n) },
				func(w *impl.World) { w.Letters = append(w.Letters, letterOf(n, n, n)) },
			} {
				asJudged(t, "far", worldWith(w, turn), unjust())
			}
		}
	}
	for _, n := range []int{math.MinInt, -1, 0, 1, math.MaxInt} {
		asJudged(t, "all of one number", numbered(n), unjust())
	}
}

func nothing(*impl.Client) {}

// Texts of any bytes and of great length, wherever one is.
func TestJudgesOfAnyTexts(t *testing.T) {
	for _, s := range append(oddTexts(), "\x00", "\xff\xfe", "take 0 a 1000\n", strings.Repeat("\xff", 1<<20), strings.Repeat("take 0 a 1000\n", 1<<16), strings.Repeat("\n", 1<<20), strings.Repeat("9", 1<<20)) {
		asJudged(t, "named", named(s), unjust())
		for what, turn := range map[string]func(w *impl.World){
			"book":   func(w *impl.World) { w.Book, w.Sure = s, 0 },
			"more":   func(w *impl.World) { w.Book += s },
			"host":   func(w *impl.World) { w.Hosts[0].Name = s },
			"letter": func(w *impl.World) { w.Letters[0].Domain = s },
			"known":  func(w *impl.World) { w.Known = append(w.Known, text(s)) },
			"client": func(w *impl.World) { w.Calls[0].Client.Host = s },
			"server": func(w *impl.World) { w.Talks[0].Server.Host = s },
		} {
			byWord(t, what, worldWith(justWorld(), turn))
		}
	}
}

// Lists of great length end, and are refused by their counts; Told alone may be as
// long as there are atoms.
func TestJudgesOfGreatLists(t *testing.T) {
	for what, turn := range map[string]func(w *impl.World){
		"known":   func(w *impl.World) { w.Known = slices.Repeat(w.Known, 10000) },
		"cache":   func(w *impl.World) { w.Cache = make([]impl.Policy, 100000) },
		"hosts":   func(w *impl.World) { w.Hosts = slices.Repeat(w.Hosts, 100000) },
		"letters": func(w *impl.World) { w.Letters = slices.Repeat(w.Letters, 100000) },
		"calls":   func(w *impl.World) { w.Calls = slices.Repeat(w.Calls, 100000) },
		"talks":   func(w *impl.World) { w.Talks = slices.Repeat(w.Talks, 100000) },
		"told":    func(w *impl.World) { w.Told = slices.Repeat(w.Told, 100000) },
		"got":     func(w *impl.World) { w.Talks[0].Server.Got = make([]int, 1<<20) },
	} {
		w := worldWith(justWorld(), turn)
		if got := judge(w); got != unjust() {
			t.Error(what, got)
		}
	}
	told := make([]int, impl.MaxAtom+1)
	for i := range told {
		told[i] = i
	}
	w := worldWith(justWorld(), func(w *impl.World) { w.Known, w.Told = atoms(1000, 300), told })
	if got := judge(w); got != just() {
		t.Error("all told:", got)
	}
	w.Told = slices.Delete(told, 1002, 1003)
	if got := judge(w); got != (verdict{held: true, taken: true, book: true}) {
		t.Error("all told but one:", got)
	}
}

// As many terms as may be known, each as great as there may be, with texts of all
// bytes that there is room for; and terms of any depth, and without an end.
func TestJudgesOfGreatTerms(t *testing.T) {
	great := greatKnown()
	long, letters := takenLetters(impl.MaxLetters)
	w := worldWith(justWorld(), func(w *impl.World) {
		w.Known, w.Book, w.Letters, w.Sure = great, journal(long...), letters, 0
	})
	if got := judge(w); got != just() {
		t.Error(got)
	}
	w.Known[299] = atom(letters[29].Body)
	if got := judge(w); got != (verdict{held: true, taken: true, book: true}) {
		t.Error(got)
	}
	for _, w := range badTermWorlds() {
		if got := judge(w); got != unjust() {
			t.Error(got)
		}
	}
}

// greatKnown is as much as may be known, each as great as there may be, with texts
// of all bytes that there is room for.
func greatKnown() terms {
	var great terms
	for i := range impl.MaxKnown {
		x := atom(2000 + i)
		for impl.TermSize(x) < impl.MaxTerm-1 {
			x = pair(text(strings.Repeat("x", 300)), x)
		}
		great = append(great, x)
	}
	return great
}

// badTermWorlds have a term of any depth, or one without an end, in each place where
// there is one.
func badTermWorlds() []impl.World {
	deep := atom(1000)
	for range 100000 {
		deep = impl.Term{Op: impl.TmHash, Kids: terms{deep}}
	}
	var list []impl.World
	for _, x := range (terms{deep, ring(), pair(ring(), ring()), tree(100000), {Op: impl.TmPair, Kids: make(terms, 1<<20)}}) {
		for _, turn := range []func(w *impl.World){
			func(w *impl.World) { w.Known[0] = x },
			func(w *impl.World) { w.Calls[0].Client.Share = x },
			func(w *impl.World) { w.Talks[0].Server.Cert = x },
			func(w *impl.World) { w.Talks[1].Server.Share = x },
		} {
			list = append(list, worldWith(justWorld(), turn))
		}
	}
	return list
}
