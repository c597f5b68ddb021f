package tests

import (
	"fmt"
	"slices"
	"strings"
	"testing"
	"unsafe"

	"loop.example/g00328/impl"
)

func spareHost() impl.Host { return impl.Host{Name: "spare", Key: -7, Lost: true} }

func spareLetter() impl.Letter {
	return impl.Letter{Domain: "spare", Body: -7, State: -7, Tries: -7, Next: -7}
}

func spareCall() impl.Call {
	return impl.Call{Letter: -7, Client: impl.Client{Host: "spare"}, Good: true}
}

func spareTalk() impl.Talk { return impl.Talk{Host: -7, Server: impl.Server{Host: "spare"}} }

// behindIt is list with that in spare room behind it.
func behindIt[T any](list []T, spare T) []T {
	return slices.Concat(list, slices.Repeat([]T{spare}, spareRoom))[:len(list)]
}

// stillBehind tells whether that is in the spare room behind list still.
func stillBehind[T any](list []T, spare T, same func(a, b T) bool) bool {
	return slices.EqualFunc(list[len(list):cap(list)][:spareRoom], slices.Repeat([]T{spare}, spareRoom), same)
}

func equal[T comparable](a, b T) bool { return a == b }

// roomyWorld is w with each text in memory of its own and spare room behind all
// lists, something in all of it.
func roomyWorld(w impl.World) impl.World {
	w = worldWith(w, func(w *impl.World) {})
	for i := range w.Cache {
		w.Cache[i].Domain = strings.Clone(w.Cache[i].Domain)
		for j := range w.Cache[i].Mx {
			w.Cache[i].Mx[j] = strings.Clone(w.Cache[i].Mx[j])
		}
	}
	for i := range w.Hosts {
		w.Hosts[i].Name = strings.Clone(w.Hosts[i].Name)
	}
	for i := range w.Letters {
		w.Letters[i].Domain = strings.Clone(w.Letters[i].Domain)
	}
	for i := range w.Calls {
		w.Calls[i].Client = roomyClient(w.Calls[i].Client)
	}
	for i := range w.Talks {
		w.Talks[i].Server = roomyServer(w.Talks[i].Server)
	}
	w.Known, w.Cache, w.Book = roomyList(w.Known), roomyPolicies(w.Cache), strings.Clone(w.Book)
	w.Hosts, w.Letters = behindIt(w.Hosts, spareHost()), behindIt(w.Letters, spareLetter())
	w.Calls, w.Talks, w.Told = behindIt(w.Calls, spareCall()), behindIt(w.Talks, spareTalk()), behindIt(w.Told, -7)
	return w
}

// untouchedWorld tells whether w is as roomyWorld made it of was.
func untouchedWorld(w, was impl.World) bool {
	for i := range was.Calls {
		if i < len(w.Calls) && !untouchedClient(w.Calls[i].Client, was.Calls[i].Client) {
			return false
		}
	}
	for i := range was.Talks {
		if i < len(w.Talks) && !untouchedServer(w.Talks[i].Server, was.Talks[i].Server) {
			return false
		}
	}
	return sameWorld(w, was) && untouchedList(w.Known, was.Known) && untouchedPolicies(w.Cache, was.Cache) &&
		stillBehind(w.Hosts, spareHost(), equal) && stillBehind(w.Letters, spareLetter(), equal) &&
		stillBehind(w.Calls, spareCall(), sameCall) && stillBehind(w.Talks, spareTalk(), sameTalk) && stillBehind(w.Told, -7, equal)
}

// spoilWorld overwrites all lists of an answer, with the spare room behind them.
func spoilWorld(w impl.World) {
	for _, c := range w.Calls {
		spoil(c.Client.Share)
	}
	for _, k := range w.Talks {
		spoilServer(k.Server, nil)
	}
	spoil(term(impl.TmPair, w.Known...))
	fill(w.Known, impl.Term{Op: -9})
	overwritePolicies(w.Cache)
	fill(w.Hosts, impl.Host{Name: "overwritten", Key: -9})
	fill(w.Letters, impl.Letter{Domain: "overwritten", Body: -9})
	fill(w.Calls, impl.Call{Letter: -9})
	fill(w.Talks, impl.Talk{Host: -9})
	fill(w.Told, -9)
}

func fill[T any](list []T, one T) {
	for i := range list[:cap(list)] {
		list[:cap(list)][i] = one
	}
}

// worldTexts are all texts of w that are not empty.
func worldTexts(w impl.World) []string {
	list := append(policyTexts(w.Cache), w.Book)
	for _, x := range w.Known {
		list = append(list, textsOfTerm(x)...)
	}
	for _, h := range w.Hosts {
		list = append(list, h.Name)
	}
	for _, l := range w.Letters {
		list = append(list, l.Domain)
	}
	for _, c := range w.Calls {
		list = append(list, textsOfTerm(wholeClient(c.Client))...)
	}
	for _, k := range w.Talks {
		list = append(list, textsOfTerm(wholeServer(k.Server))...)
	}
	return slices.DeleteFunc(list, func(s string) bool { return s == "" })
}

// apartTexts tells whether no text of the one lies in the memory of the others.
func apartTexts(list, others []string) bool {
	type place struct{ from, to uintptr }
	placed := func(s string) place {
		from := uintptr(unsafe.Pointer(unsafe.StringData(s)))
		return place{from, from + uintptr(len(s))}
	}
	var all []place
	for _, s := range others {
		all = append(all, placed(s))
	}
	for _, s := range list {
		p := placed(s)
		if slices.ContainsFunc(all, func(q place) bool { return p.from < q.to && q.from < p.to }) {
			return false
		}
	}
	return true
}

// ownTexts tells whether no two texts of w share memory.
func ownTexts(w impl.World) bool {
	list := worldTexts(w)
	for i := range list {
		if !apartTexts(list[i:i+1], list[:i]) {
			return false
		}
	}
	return true
}

// newTexts asks whether the texts of two answers to the same are of their own
// memory, none of it of what was given, and tells how many there are in the one.
func newTexts(t *testing.T, what string, given []string, one, two []impl.World) int {
	t.Helper()
	many := 0
	for i := range one {
		texts := worldTexts(one[i])
		if !apartTexts(texts, given) || !apartTexts(texts, worldTexts(two[i])) {
			t.Fatal(i, "has a text of its arguments or of another answer:", what)
		}
		if !ownTexts(one[i]) {
			t.Fatal(i, "has one text in two places:", what)
		}
		many += len(texts)
	}
	return many
}

// newLists asks whether no two lists of an answer share memory, and tells how many
// places they have.
func newLists(t *testing.T, what string, answers []impl.World) int {
	t.Helper()
	all := 0
	for i, w := range answers {
		many, own := ownLists(w)
		if !own {
			t.Fatal(i, "has lists that share memory:", what)
		}
		all += many
	}
	return all
}

// ownLists tells whether no two lists of w share memory, their spare room too, and
// how many there are.
func ownLists(w impl.World) (int, bool) {
	seen, many := map[unsafe.Pointer]int{}, 0
	add := func(at unsafe.Pointer) { seen[at]++; many++ }
	places(add, w.Told)
	places(add, w.Hosts)
	places(add, w.Letters)
	places(add, w.Calls)
	places(add, w.Talks)
	places(add, w.Cache)
	whole := terms{}
	for _, p := range w.Cache {
		places(add, p.Mx)
	}
	for _, c := range w.Calls {
		whole = append(whole, c.Client.Share)
	}
	for _, k := range w.Talks {
		whole = append(whole, k.Server.Cert, k.Server.Share)
		places(add, k.Server.Got)
	}
	places(add, w.Known)
	for _, x := range append(whole, w.Known...) {
		for _, list := range listsOf(x) {
			places(add, list)
		}
	}
	return many, len(seen) == many
}

func places[T any](add func(at unsafe.Pointer), list []T) {
	for i := range list[:cap(list)] {
		add(unsafe.Pointer(&list[:cap(list)][i]))
	}
}

// learnings are worlds and what they learn.
type learning struct {
	world impl.World
	list  terms
}

func learnings() []learning {
	shared := hash(text("x"))
	some := terms{pair(shared, pair(text("y"), shared)), seal(text("k"), sign(atom(6), text("z"))), atom(7), atom(7), {}, term(9, shared), text("220")}
	var list []learning
	for _, w := range oddWorlds() {
		list = append(list, learning{w, nil}, learning{w, some})
		// So few that they would fit into the spare room behind what is known.
		for count := 1; count <= spareRoom; count++ {
			list = append(list, learning{w, some[:count]})
		}
	}
	return append(list, learning{someWorld(), someWorld().Known}, learning{bareWorld(), atoms(0, 400)}, learning{fullWorld(), goodTerms()})
}

func TestLearnWritesIntoNothing(t *testing.T) {
	for i, l := range learnings() {
		w, list := roomyWorld(l.world), roomyList(l.list)
		impl.WorldOk(w)
		one := impl.Learn(w, list)
		impl.HostNamed(w, "mx.a")
		two := impl.Learn(w, list)
		if !untouchedWorld(w, l.world) || !untouchedList(list, l.list) {
			t.Fatal(i, "written into:", toldWorld(l.world))
		}
		// What is written into an answer is seen by no argument and by no other answer.
		spoilWorld(one)
		if !untouchedWorld(w, l.world) || !untouchedList(list, l.list) {
			t.Fatal(i, "shares memory with its arguments:", toldWorld(l.world))
		}
		if !sameBut(two, l.world) || !alike(two.Known, partsByWord(slices.Concat(l.world.Known, l.list))) {
			t.Fatal(i, "two answers share memory:", toldWorld(l.world))
		}
		if three := impl.Learn(w, list); !sameWorld(two, three) {
			t.Fatal(i, "another one behind another call:", toldWorld(l.world))
		}
	}
}

// What is written into the arguments behind the call is not seen in the answer.
func TestLearnIsApartFromItsArguments(t *testing.T) {
	for i, l := range learnings() {
		w, list := roomyWorld(l.world), roomyList(l.list)
		got := impl.Learn(w, list)
		spoilWorld(w)
		spoil(term(impl.TmPair, list...))
		fill(list, impl.Term{Op: -9})
		if !sameBut(got, l.world) || !alike(got.Known, partsByWord(slices.Concat(l.world.Known, l.list))) {
			t.Fatal(i, "shares memory with its arguments:", toldWorld(l.world))
		}
	}
}

func TestLearnAnswersNewTexts(t *testing.T) {
	many := 0
	for i, l := range learnings() {
		w, list := roomyWorld(l.world), roomyList(l.list)
		for j := range list {
			list[j].S = strings.Clone(list[j].S)
		}
		one, two := impl.Learn(w, list), impl.Learn(w, list)
		given := append(worldTexts(w), textsOfTerm(term(impl.TmPair, list...))...)
		if !apartTexts(worldTexts(one), given) || !apartTexts(worldTexts(one), worldTexts(two)) {
			t.Fatal(i, "has a text of its arguments or of another answer:", toldWorld(l.world))
		}
		if !ownTexts(one) {
			t.Fatal(i, "has one text in two places:", toldWorld(l.world))
		}
		many += len(worldTexts(one))
	}
	if many < 1000 {
		t.Error("the worlds have too few texts:", many)
	}
}

func TestNoTwoListsOfALearntWorldShareMemory(t *testing.T) {
	all := 0
	for i, l := range learnings() {
		many, own := ownLists(impl.Learn(roomyWorld(l.world), roomyList(l.list)))
		if !own {
			t.Fatal(i, "has lists that share memory:", toldWorld(l.world))
		}
		all += many
	}
	if all < 5000 {
		t.Error("the worlds have too few lists:", all)
	}
}

// The arguments may share memory with each other: the lists of an answer don't.
func TestLearnOfOneMemory(t *testing.T) {
	mx, got := someMx(3), []int{5, 6, 7}
	one := pair(hash(text("x")), hash(text("y")))
	w := worldWith(bareWorld(), func(w *impl.World) {
		w.Known = terms{one, one.Kids[0], pair(one, one)}
		w.Hosts, w.Letters = hostsNamed("mx.a", "m2.a"), letters()[:2]
		for i, domain := range inOrder(3) {
			w.Cache = append(w.Cache, impl.Policy{Domain: domain, Mode: impl.MdHold, Mx: mx[:1+i], Until: 40})
			w.Calls = append(w.Calls, impl.Call{Letter: i % 2, Client: clientWith(provedClient(impl.ClBody), func(c *impl.Client) { c.Share = one })})
			w.Talks = append(w.Talks, impl.Talk{Host: i % 2, Server: serverWith(sealedServer(impl.SvBody), func(s *impl.Server) { s.Share, s.Cert = one, one })})
			w.Talks[i].Server.Got = got[:i]
		}
		w.Told = got
	})
	isRight(t, "of one memory", w)
	answer := learns(t, w, one, w.Known[2], one.Kids[1])
	if _, own := ownLists(answer); !own || !ownTexts(answer) {
		t.Error("shared:", toldWorld(answer))
	}
	// A piece of what is known is learnt once more.
	answer = learns(t, w, w.Known[1:]...)
	if _, own := ownLists(answer); !own || !ownTexts(answer) {
		t.Error("shared:", toldWorld(answer))
	}
	if answer := impl.Learn(worldWith(w, func(v *impl.World) { v.Known = w.Known[:1] }), w.Known[2:]); !alike(w.Known, terms{one, one.Kids[0], pair(one, one)}) || len(answer.Known) != 4 {
		t.Error("written behind what is known:", listed(w.Known), listed(answer.Known))
	}
	if !slices.Equal(got, []int{5, 6, 7}) || !slices.Equal(mx, someMx(3)) {
		t.Error("written into:", got, mx)
	}
}

func TestWorldNewIsNewMemory(t *testing.T) {
	for count := range 6 {
		was := goodHosts()[:count]
		names := roomyTexts(was)
		for i := range names {
			names[i] = strings.Clone(names[i])
		}
		one, _ := impl.WorldNew(names)
		two, _ := impl.WorldNew(names)
		if !untouchedTexts(names, was) {
			t.Fatal(count, "written into")
		}
		if !apartTexts(worldTexts(one), names) || !apartTexts(worldTexts(one), worldTexts(two)) || !ownTexts(one) {
			t.Error(count, "has a text of its argument, of another answer, or one in two places")
		}
		if _, own := ownLists(one); !own {
			t.Error(count, "has lists that share memory")
		}
		spoilWorld(one)
		overwrite(names)
		if want, _ := newByWord(was); !sameWorld(two, want) {
			t.Error(count, "two answers share memory")
		}
		if three, _ := impl.WorldNew(was); !sameWorld(three, two) {
			t.Error(count, "another one behind another call")
		}
	}
}

// The bytes of the texts are written over behind the call, which no answer sees.
func TestWorldsAreApartFromTheirTexts(t *testing.T) {
	bytes := []byte("mx.am2.atake 0 a 1000\nb")
	whole := unsafe.String(&bytes[0], len(bytes))
	names := []string{whole[:4], whole[4:8]}
	turn := func(w *impl.World) {
		w.Hosts[0].Name, w.Book, w.Letters[1].Domain, w.Cache[2].Domain = names[0], whole[8:], whole[22:], whole[22:]
		w.Cache[2].Mx[0], w.Calls[0].Client.Host, w.Talks[0].Server.Host = names[0], names[1], names[1]
		w.Known[0], w.Calls[0].Client.Share, w.Talks[0].Server.Share, w.Talks[0].Server.Cert = text(names[0]), text(whole[8:]), text(whole[:1]), hash(text(whole))
	}
	was := string(bytes)
	made, done := impl.WorldNew(names)
	w := worldWith(someWorld(), turn)
	learnt := impl.Learn(w, terms{text(whole)})
	answer := func() string {
		return toldWorld(made) + toldWorld(learnt) + learnt.Book + learnt.Cache[2].Mx[0] + told(learnt.Calls[0].Client) + toldServer(learnt.Talks[0].Server)
	}
	want := answer()
	for i := range bytes {
		bytes[i] = '!'
	}
	if !done || answer() != want || !strings.Contains(want, was[8:]) {
		t.Error(answer(), want)
	}
}

// spent is all of an answer as text; the answer is overwritten behind that.
func spent(w impl.World) string {
	all := toldWorld(w) + listed(w.Known)
	for _, c := range w.Calls {
		all += allOf(c.Client, nil)
	}
	for _, k := range w.Talks {
		all += allOfServer(k.Server, nil)
	}
	spoilWorld(w)
	return all
}

// notKept asks so many things twice, the second time in the other order: what was
// asked before is nothing to an answer.
func notKept(t *testing.T, count int, ask func(i int) string) {
	t.Helper()
	var first []string
	for i := range count {
		first = append(first, ask(i))
	}
	for i := count - 1; i >= 0; i-- {
		if again := ask(i); again != first[i] {
			t.Fatalf("%d: %q %q", i, first[i], again)
		}
	}
}

// worldsOf are all answers of chapter 13 at a world, a list and names, as text; the
// answers are overwritten behind that.
func worldsOf(w impl.World, list terms, names []string) string {
	made, done := impl.WorldNew(names)
	learnt := impl.Learn(w, list)
	all := fmt.Sprint(impl.WorldOk(w), done)
	for _, name := range append(names, "") {
		all += fmt.Sprint(" ", impl.HostNamed(w, name), impl.HostNamed(learnt, name))
	}
	return all + spent(made) + spent(learnt)
}

// What is asked first, and what was asked before, is nothing to an answer.
func TestWorldsAreNotKept(t *testing.T) {
	given := learnings()
	names := [][]string{nil, {"mx.a"}, {"m2.a", "mx.a"}, {"mx.a", "mx.a"}, goodHosts()[:4], goodHosts()[:5]}
	notKept(t, 2*len(given), func(i int) string {
		l := given[i%len(given)]
		return worldsOf(l.world, l.list, names[i%len(names)])
	})
}
