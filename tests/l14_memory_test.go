package tests

import (
	"fmt"
	"slices"
	"strings"
	"testing"
	"unsafe"

	"loop.example/g00328/impl"
)

func spareDeed() impl.Deed { return impl.Deed{Kind: -7, A: -7, S: "spare"} }

func sameDeed(a, b impl.Deed) bool {
	return a.Kind == b.Kind && a.A == b.A && a.S == b.S && order(a.T, b.T) == 0
}

// roomyDeed is d with a text of its own memory and spare room behind all lists.
func roomyDeed(d impl.Deed) impl.Deed {
	d.S, d.T = strings.Clone(d.S), roomy(d.T)
	return d
}

func roomyDeeds(list []impl.Deed) []impl.Deed {
	var made []impl.Deed
	for _, d := range list {
		made = append(made, roomyDeed(d))
	}
	return behindIt(made, spareDeed())
}

// untouchedDeeds tells whether list is as roomyDeeds made it of was.
func untouchedDeeds(list, was []impl.Deed) bool {
	for i, d := range list {
		if !sameDeed(d, was[i]) || !untouched(d.T, was[i].T) {
			return false
		}
	}
	return len(list) == len(was) && stillBehind(list, spareDeed(), sameDeed)
}

func spoilDeeds(list []impl.Deed) {
	for _, d := range list {
		spoil(d.T)
	}
	fill(list, impl.Deed{Kind: -9, S: "overwritten"})
}

func deedTexts(list []impl.Deed) []string {
	var texts []string
	for _, d := range list {
		texts = append(append(texts, d.S), textsOfTerm(d.T)...)
	}
	return texts
}

// doing is a world and what is done in it.
type doing struct {
	world impl.World
	list  []impl.Deed
}

// longSecret has texts and lists within it, which come into a share.
func longSecret() impl.Term { return pair(text("secret"), hash(text("of two"))) }

// doings are deeds of each kind, done and refused, alone and in rows; each list of a
// world has as many in it as would fit into the spare room behind it.
func doings() []doing {
	w, each := deedsDone()
	list := []doing{{newWorld(), someDeeds()}, {w, each}, {newWorld(), nil}, {impl.World{}, each}, {numbered(-1), each}, {named("x"), each}, {someWorld(), make([]impl.Deed, 301)}}
	for _, d := range append(slices.Clone(each), someDeeds()[:9]...) {
		list = append(list, doing{w, []impl.Deed{d}}, doing{bareWorld(), []impl.Deed{d}}, doing{fullWorld(), []impl.Deed{d}})
	}
	for _, c := range []impl.Client{openClient(impl.ClGreet), openClient(impl.ClReady), openClient(impl.ClReply), openClient(impl.ClData), sealedClient(impl.ClMail), sealedClient(impl.ClBody), mustBe(provedClient(impl.ClData)), openClient(impl.ClDone)} {
		reply := rightReply(longSecret(), atom(20), atom(10), lastingCert("mx.a", 10))
		one := worldWith(oneCall(c), func(w *impl.World) { w.Known = append(w.Known, reply); w.Told = []int{5, 31} })
		for _, x := range (terms{heardAs(c, "220"), heardAs(c, "250"), heardAs(c, "354"), reply, atom(10), longSecret()}) {
			list = append(list, doing{one, []impl.Deed{tell(0, x)}})
		}
	}
	for _, s := range servers() {
		one := oneTalk(s)
		for _, x := range (terms{helloOf(longSecret()), sentTo(s, text("data")), sentTo(s, pair(text("body"), atom(501))), doneOf(share(atom(20), atom(40))), longSecret()}) {
			list = append(list, doing{one, []impl.Deed{say(0, x)}})
		}
	}
	return list
}

// answersTo are the worlds that Do and DoAll answer, each anew.
func answersTo(w impl.World, list []impl.Deed) []impl.World {
	all, _ := impl.DoAll(w, list)
	answers := []impl.World{all}
	for _, d := range list[:min(len(list), 40)] {
		one, _ := impl.Do(w, d)
		answers = append(answers, one)
	}
	return answers
}

// wantedOf are those by the document's word.
func wantedOf(w impl.World, list []impl.Deed) []impl.World {
	all, _ := allByWord(w, list)
	answers := []impl.World{all}
	for _, d := range list[:min(len(list), 40)] {
		one, _ := deedByWord(w, d)
		answers = append(answers, one)
	}
	return answers
}

func sameWorlds(a, b []impl.World) bool { return slices.EqualFunc(a, b, sameWorld) }

func TestDeedsWriteIntoNothing(t *testing.T) {
	for i, g := range doings() {
		w, list := roomyWorld(g.world), roomyDeeds(g.list)
		one, two := answersTo(w, list), answersTo(w, list)
		if !untouchedWorld(w, g.world) || !untouchedDeeds(list, g.list) {
			t.Fatal(i, "written into:", toldWorld(g.world))
		}
		want := wantedOf(g.world, g.list)
		if !sameWorlds(one, want) {
			t.Fatal(i, "not by the document's word:", toldWorld(g.world))
		}
		// What is written into an answer is seen by no argument and by no other answer.
		for _, v := range one {
			spoilWorld(v)
		}
		if !untouchedWorld(w, g.world) || !untouchedDeeds(list, g.list) {
			t.Fatal(i, "shares memory with its arguments:", toldWorld(g.world))
		}
		if !sameWorlds(two, want) || !sameWorlds(answersTo(w, list), want) {
			t.Fatal(i, "two answers share memory:", toldWorld(g.world))
		}
	}
}

// What is written into the arguments behind the call is not seen in the answer.
func TestDeedsAreApartFromTheirArguments(t *testing.T) {
	for i, g := range doings() {
		w, list := roomyWorld(g.world), roomyDeeds(g.list)
		got := answersTo(w, list)
		spoilWorld(w)
		spoilDeeds(list)
		if !sameWorlds(got, wantedOf(g.world, g.list)) {
			t.Fatal(i, "shares memory with its arguments:", toldWorld(g.world))
		}
	}
}

func TestDeedsAnswerNewTexts(t *testing.T) {
	many := 0
	for _, g := range doings() {
		w, list := roomyWorld(g.world), roomyDeeds(g.list)
		given := append(worldTexts(w), deedTexts(list)...)
		many += newTexts(t, toldWorld(g.world), given, answersTo(w, list), answersTo(w, list))
	}
	if many < 5000 {
		t.Error("the worlds have too few texts:", many)
	}
}

func TestNoTwoListsOfADoneWorldShareMemory(t *testing.T) {
	all := 0
	for _, g := range doings() {
		all += newLists(t, toldWorld(g.world), answersTo(roomyWorld(g.world), roomyDeeds(g.list)))
	}
	if all < 10000 {
		t.Error("the worlds have too few lists:", all)
	}
}

// The arguments may share memory with each other: the lists of an answer don't.
func TestDeedsOfOneMemory(t *testing.T) {
	x := pair(hash(text("x")), hash(text("y")))
	some := worldWith(someWorld(), func(w *impl.World) {
		w.Known = terms{x, x.Kids[0], x}
		w.Calls[1].Client.Step, w.Calls[2].Client.Share, w.Talks[0].Server.Share, w.Talks[1].Server.Cert = impl.ClGreet, x, x, x
	})
	for _, d := range []impl.Deed{tell(1, text("220")), tell(1, x), say(1, x), say(1, x.Kids[0]), pass(0), settle(), meet(0), lose(0), take("a"), fall(0), tell(1, atom(9)), say(0, x)} {
		for _, v := range answersTo(some, []impl.Deed{d, d}) {
			if _, own := ownLists(v); !own || !ownTexts(v) {
				t.Error("shared:", toldDeed(d), toldWorld(v))
			}
		}
	}
	// The lists of the world are pieces of one, so that behind one stands the next.
	letters, told := letters()[:8], []int{5, 6, 7, 900, 901}
	w := worldWith(someWorld(), func(w *impl.World) {
		w.Calls = slices.Repeat([]impl.Call{{Client: openClient(impl.ClData)}}, 5)
	})
	w.Letters, w.Told, w.Calls = letters[:2], told[:3], w.Calls[:1]
	calls := w.Calls[:5]
	answersTo(w, []impl.Deed{take("a"), tell(0, text("354")), pass(10), call(0, "mx.b")})
	if !slices.Equal(told, []int{5, 6, 7, 900, 901}) || letters[2] != letterOf(1, 0, impl.MaxTime) || !sameCall(calls[1], calls[4]) {
		t.Error("written behind:", told, letters[2], told)
	}
}

// The bytes of the texts are written over behind the call, which no answer sees.
func TestDeedsAreApartFromTheirTexts(t *testing.T) {
	policy := textByWord(holding("a", "*.a", "mx.b"), 30)
	bytes := []byte("domain mx.c a " + policy)
	whole := unsafe.String(&bytes[0], len(bytes))
	w := worldWith(callWorld(), func(w *impl.World) { w.Talks = []impl.Talk{{Server: openServer(impl.SvHello)}} })
	list := []impl.Deed{take(whole[:6]), call(4, whole[7:11]), ask(whole[12:]), say(0, helloOf(text(whole[:11]))), tell(0, text("220"))}
	all, codes := impl.DoAll(w, list)
	answer := func() string {
		return fmt.Sprint(all.Letters, all.Cache, all.Book, told(all.Calls[0].Client), toldServer(all.Talks[0].Server), listed(all.Known[20:]))
	}
	was := answer()
	for i := range bytes {
		bytes[i] = '!'
	}
	if !slices.Equal(codes, make([]int, 5)) || answer() != was || strings.Contains(was, "!") || strings.Count(was, "mx.c") < 2 {
		t.Error(codes, answer(), was)
	}
}

// What was asked before is nothing to an answer.
func TestDeedsAreNotKept(t *testing.T) {
	given := doings()
	notKept(t, len(given), func(i int) string {
		_, codes := impl.DoAll(given[i].world, given[i].list)
		all := fmt.Sprint(codes)
		for _, w := range answersTo(given[i].world, given[i].list) {
			all += spent(w)
		}
		return all
	})
}
