package tests

import (
	"fmt"
	"math"
	"slices"
	"strings"
	"testing"
	"unsafe"

	"loop.example/g00328/impl"
)

// errand is a world, and what is to be carried in it.
type errand struct {
	world        impl.World
	letter, host int
}

// errands are such that are done, that are refused, and of no world. Each list of a
// world has as many in it as would fit into the spare room behind it.
func errands() []errand {
	some := worldWith(someWorld(), func(w *impl.World) {
		w.Letters[0].Next = 40
		w.Letters = append(w.Letters, letterOf(impl.LtWait, 0, 0))
	})
	list := []errand{{impl.World{}, 0, 0}, {numbered(-1), 0, 0}, {named("x"), 0, 0}, {bareWorld(), 0, 0}, {fullWorld(), 1, 0}, {newWorld(), 0, 1}}
	for letter := -1; letter < 4; letter++ {
		for host := -1; host < 4; host++ {
			list = append(list, errand{some, letter, host})
		}
	}
	few := worldWith(callWorld(), func(w *impl.World) { w.Letters = w.Letters[:2] })
	for _, known := range []int{0, 260, 285, 290, 300} {
		list = append(list, errand{worldWith(few, func(w *impl.World) { w.Known = atoms(2000, known) }), known % 2, 0})
	}
	return append(list, errand{few, 0, 0}, errand{few, 1, 2}, errand{withBook(few, impl.MaxNote-9), 0, 0}, errand{withBook(few, impl.MaxNote), 0, 0})
}

func (e errand) run() []impl.World {
	one, _ := impl.Carry(e.world, e.letter, e.host)
	return []impl.World{one, impl.CarryAll(e.world)}
}

func (e errand) byWord() []impl.World {
	k, _ := carryByWord(e.world, e.letter, e.host)
	return []impl.World{k.world, allCarriedByWord(e.world)}
}

// in is the same errand in another world.
func (e errand) in(w impl.World) errand {
	e.world = w
	return e
}

func TestCarryWritesIntoNothing(t *testing.T) {
	t.Parallel()
	for i, e := range errands() {
		w := roomyWorld(e.world)
		one, two := e.in(w).run(), e.in(w).run()
		if !untouchedWorld(w, e.world) {
			t.Fatal(i, "written into:", toldWorld(e.world))
		}
		want := e.byWord()
		if !sameWorlds(one, want) {
			t.Fatal(i, "not by the document's word:", toldWorld(e.world))
		}
		// What is written into an answer is seen by no argument and by no other answer.
		for _, v := range one {
			spoilWorld(v)
		}
		if !untouchedWorld(w, e.world) {
			t.Fatal(i, "shares memory with its argument:", toldWorld(e.world))
		}
		if !sameWorlds(two, want) || !sameWorlds(e.in(w).run(), want) {
			t.Fatal(i, "two answers share memory:", toldWorld(e.world))
		}
	}
}

// What is written into the argument behind the call is not seen in the answer.
func TestCarryIsApartFromItsArgument(t *testing.T) {
	for i, e := range errands() {
		w := roomyWorld(e.world)
		got := e.in(w).run()
		spoilWorld(w)
		if !sameWorlds(got, e.byWord()) {
			t.Fatal(i, "shares memory with its argument:", toldWorld(e.world))
		}
	}
}

func TestCarryAnswersNewTexts(t *testing.T) {
	many := 0
	for _, e := range errands() {
		given := e.in(roomyWorld(e.world))
		many += newTexts(t, toldWorld(e.world), worldTexts(given.world), given.run(), given.run())
	}
	if many < 3000 {
		t.Error("the worlds have too few texts:", many)
	}
}

func TestNoTwoListsOfACarriedWorldShareMemory(t *testing.T) {
	all := 0
	for _, e := range errands() {
		all += newLists(t, toldWorld(e.world), e.in(roomyWorld(e.world)).run())
	}
	if all < 10000 {
		t.Error("the worlds have too few lists:", all)
	}
}

// The lists of a world may share memory with each other, and be pieces of one, so
// that behind one stands the next: those of an answer don't.
func TestCarryOfOneMemory(t *testing.T) {
	x := pair(hash(text("x")), hash(text("y")))
	w := worldWith(someWorld(), func(w *impl.World) {
		w.Known = terms{x, x.Kids[0], x}
		w.Calls[2].Client.Share, w.Talks[0].Server.Share, w.Talks[1].Server.Cert = x, x, x
	})
	letters, told := slices.Repeat([]impl.Letter{letterOf(impl.LtWait, 0, 0)}, 5), []int{5, 6, 7, 900, 901}
	calls := slices.Repeat([]impl.Call{{Client: openClient(impl.ClData)}}, 5)
	talks := slices.Repeat([]impl.Talk{{Server: openServer(impl.SvBody)}}, 5)
	w.Letters, w.Told, w.Calls, w.Talks = letters[:2], told[:3], calls[:1], talks[:1]
	e := errand{w, 1, 0}
	for _, v := range e.run() {
		if _, own := ownLists(v); !own || !ownTexts(v) {
			t.Error("shared:", toldWorld(v))
		}
	}
	if got := e.run(); !sameWorlds(got, e.byWord()) || len(got[1].Calls) != 3 || !slices.Equal(got[1].Told, []int{5, 6, 7, 30}) {
		t.Error(toldWorld(got[0]), toldWorld(got[1]))
	}
	if !slices.Equal(told, []int{5, 6, 7, 900, 901}) || letters[2] != letters[4] || letters[0] != letters[4] || !sameCall(calls[1], calls[4]) || !sameTalk(talks[1], talks[4]) {
		t.Error("written behind:", told, letters)
	}
}

// The bytes of the texts are written over behind the call, which no answer sees.
func TestCarryIsApartFromItsTexts(t *testing.T) {
	bytes := []byte("a mx.a *.a take 0 a 1000\n")
	whole := unsafe.String(&bytes[0], len(bytes))
	w := worldWith(newWorld(), func(w *impl.World) {
		w.Hosts[0].Name, w.Book, w.Fresh = whole[2:6], whole[11:], 1001
		w.Letters = []impl.Letter{{Domain: whole[:1], Body: 1000, State: impl.LtWait}}
		w.Cache = []impl.Policy{{Domain: whole[:1], Mode: impl.MdHold, Mx: []string{whole[7:10]}, Until: 50}}
		w.Known = append(w.Known, text(whole))
	})
	got := errand{w, 0, 0}.run()
	answer := func() string {
		all := ""
		for _, v := range got {
			all += toldWorld(v) + fmt.Sprint(v.Letters, v.Cache, v.Hosts, listed(v.Known[10:])) + told(v.Calls[0].Client) + toldServer(v.Talks[0].Server)
		}
		return all
	}
	was := answer()
	for i := range bytes {
		bytes[i] = '!'
	}
	if answer() != was || strings.Contains(was, "!") || strings.Count(was, "gone 0") != 2 || strings.Count(was, "mx.a") < 6 {
		t.Error(answer(), was)
	}
}

// What was asked before is nothing to an answer.
func TestCarryKeepsNothing(t *testing.T) {
	given := errands()
	notKept(t, len(given), func(i int) string {
		_, gone := impl.Carry(given[i].world, given[i].letter, given[i].host)
		all := fmt.Sprint(gone)
		for _, w := range given[i].run() {
			all += spent(w)
		}
		return all
	})
}

// Each number of a world at its ends and over them, and each number that is asked
// for: nothing panics, and all is by the document's word.
func TestCarryAtTheEndsOfNumbers(t *testing.T) {
	t.Parallel()
	some := worldWith(someWorld(), func(w *impl.World) { w.Letters[0].Next = 0 })
	for _, w := range []impl.World{some, bareWorld(), worldWith(callWorld(), func(w *impl.World) { w.Letters = w.Letters[:2] })} {
		for _, p := range worldNumbers(w) {
			for _, n := range []int{math.MinInt, p.least - 1, p.least, p.most, p.most + 1, math.MaxInt} {
				made := worldWith(w, p.to(n))
				asCarried(t, made, 0, 0)
				allCarried(t, made)
			}
		}
		for _, letter := range append(farNumbers(), 0, 1, len(w.Letters)) {
			for _, host := range append(farNumbers(), 0, 2, len(w.Hosts)) {
				asCarried(t, w, letter, host)
			}
		}
	}
	for _, w := range oddWorlds() {
		for _, n := range []int{math.MinInt, -1, 0, math.MaxInt} {
			asCarried(t, w, n, 0)
			asCarried(t, w, 0, n)
		}
	}
}

func TestCarryInWorldsOfGreatTexts(t *testing.T) {
	for _, one := range []string{"a", " ", "\n", "\x00", "\xff", "a.", "é", "take 0 a 1\n"} {
		for _, many := range []string{one, strings.Repeat(one, 1000), strings.Repeat(one, 1<<20)} {
			for _, turn := range []func(w *impl.World){
				func(w *impl.World) { w.Book, w.Sure = many, 0 },
				func(w *impl.World) { w.Hosts[0].Name = many },
				func(w *impl.World) { w.Letters[0].Domain = many },
				func(w *impl.World) { w.Cache[0].Domain = many },
				func(w *impl.World) { w.Cache[0].Mx = []string{many} },
				func(w *impl.World) { w.Known = append(w.Known, text(many)) },
				func(w *impl.World) { w.Calls = []impl.Call{{Client: withHost(openClient(impl.ClGreet), many)}} },
			} {
				w := worldWith(callWorld(), func(w *impl.World) { w.Letters = w.Letters[:1] })
				w = worldWith(w, turn)
				asCarried(t, w, 0, 0)
				allCarried(t, w)
			}
		}
	}
}

func withHost(c impl.Client, name string) impl.Client {
	c.Host = name
	return c
}

// Lists of great length end: they are refused by their counts, but for Told, which
// may be as long as there are atoms.
func TestCarryInWorldsOfGreatLists(t *testing.T) {
	for what, turn := range map[string]func(w *impl.World){
		"known":   func(w *impl.World) { w.Known = slices.Repeat(w.Known, 10000) },
		"cache":   func(w *impl.World) { w.Cache = make([]impl.Policy, 100000) },
		"mx":      func(w *impl.World) { w.Cache[0].Mx = slices.Repeat([]string{"mx.a"}, 100000) },
		"hosts":   func(w *impl.World) { w.Hosts = slices.Repeat(w.Hosts, 100000) },
		"letters": func(w *impl.World) { w.Letters = slices.Repeat(w.Letters, 100000) },
		"calls":   func(w *impl.World) { w.Calls = make([]impl.Call, 100000) },
		"talks":   func(w *impl.World) { w.Talks = make([]impl.Talk, 100000) },
		"told":    func(w *impl.World) { w.Told = make([]int, 1<<20) },
		"got":     func(w *impl.World) { w.Talks = []impl.Talk{{Server: thatGot(openServer(1), make([]int, 1<<20)...)}} },
	} {
		w := worldWith(callWorld(), turn)
		noCarry(t, what, w, 0, 0)
		if got := impl.CarryAll(w); !isNoWorld(got) {
			t.Error(what, toldWorld(got))
		}
	}
	w := worldWith(callWorld(), func(w *impl.World) {
		w.Letters = w.Letters[1:2]
		for n := range impl.MaxAtom + 1 {
			if n != 701 {
				w.Told = append(w.Told, n)
			}
		}
	})
	got, gone := impl.Carry(w, 0, 0)
	all := impl.CarryAll(w)
	if !gone || len(got.Told) != impl.MaxAtom+1 || got.Told[701] != 701 || !slices.IsSorted(got.Told) || len(w.Told) != impl.MaxAtom || !sameWorld(got, all) {
		t.Error(gone, len(got.Told), len(all.Told))
	}
}

// As many terms as may be known, each as great as there may be; and terms of any
// depth, and without an end, wherever there may be one.
func TestCarryInWorldsOfGreatTerms(t *testing.T) {
	t.Parallel()
	great := greatKnown()
	w := worldWith(callWorld(), func(w *impl.World) { w.Known, w.Letters = great, w.Letters[:1] })
	if got, gone := impl.Carry(w, 0, 0); gone || endsAt(got) != [2]int{impl.ClReply, impl.SvHello} || !alike(got.Known, great) || !sameWorld(impl.CarryAll(w), got) {
		t.Error(gone, toldWorld(got))
	}
	for _, w := range badTermWorlds() {
		noCarry(t, "a term that is none", w, 0, 0)
		if got := impl.CarryAll(w); !isNoWorld(got) {
			t.Error(toldWorld(got))
		}
	}
}
