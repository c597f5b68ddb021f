package tests

import (
	"testing"

	"loop.example/g00328/impl"
)

// textsOfTerm are all texts within t that are not empty.
func textsOfTerm(t impl.Term) []string {
	var list []string
	if t.S != "" {
		list = append(list, t.S)
	}
	for _, kid := range t.Kids {
		list = append(list, textsOfTerm(kid)...)
	}
	return list
}

// sharesTexts tells whether a text within answer lies in the memory of one of those given.
func sharesTexts(answer impl.Term, given ...impl.Term) bool {
	for _, s := range textsOfTerm(answer) {
		for _, other := range textsOfTerm(term(impl.TmPair, given...)) {
			if liesWithin(s, other) {
				return true
			}
		}
	}
	return false
}

// greeting are answers of chapter 8 at arguments of one kind.
type greeting struct {
	name  string
	given terms
	ask   func(given terms) terms
}

// greetings have texts and lists of lists in each argument, and the same one more than once.
func greetings() []greeting {
	shared := hash(text("x"))
	e, s := pair(text("e"), shared), pair(text("s"), shared)
	key, cert := pair(shared, text("k")), pair(pair(shared, text("c")), share(shared, shared))
	both := shareOf(e, s)
	said := replyWith(pub(s), both, pair(cert, cert))
	one := func(answer func(given terms) impl.Term) func(given terms) terms {
		return func(given terms) terms { return terms{answer(given)} }
	}
	return []greeting{
		{"both", terms{e, s}, one(func(g terms) impl.Term { return impl.Both(g[0], g[1]) })},
		{"both of one", terms{e}, one(func(g terms) impl.Term { return impl.Both(g[0], g[0]) })},
		{"hello", terms{e}, one(func(g terms) impl.Term { return impl.Hello(g[0]) })},
		{"hello read", terms{helloOf(cert)}, one(func(g terms) impl.Term { got, _ := impl.HelloOf(g[0]); return got })},
		{"reply", terms{s, pub(e), key, cert}, one(func(g terms) impl.Term { got, _ := impl.Reply(g[0], g[1], g[2], g[3]); return got })},
		{"reply of one", terms{e, pub(e)}, one(func(g terms) impl.Term { got, _ := impl.Reply(g[0], g[1], g[0], g[1]); return got })},
		{"reply read", terms{e, said}, func(g terms) terms { got, _ := fourOf(g[0], g[1]); return got }},
		{"reply to itself read", terms{e, replyWith(pub(e), shareOf(e, e), pair(e, e))}, func(g terms) terms { got, _ := fourOf(g[0], g[1]); return got }},
		{"done", terms{both}, one(func(g terms) impl.Term { return impl.Done(g[0]) })},
	}
}

func roomyEach(list terms) terms {
	var made terms
	for _, x := range list {
		made = append(made, roomy(x))
	}
	return made
}

func untouchedEach(list, was terms) bool {
	for i := range list {
		if !untouched(list[i], was[i]) {
			return false
		}
	}
	return true
}

func TestGreetingsAreNewMemory(t *testing.T) {
	for _, g := range greetings() {
		given := roomyEach(g.given)
		first, second := g.ask(given), g.ask(given)
		want := listed(second)
		for _, answer := range first {
			if isZero(answer) || sharesTexts(answer, given...) || sharesTexts(answer, second...) {
				t.Error(g.name, "is zero, or has a text of its arguments or of another answer")
			}
			spoil(answer)
		}
		if !untouchedEach(given, g.given) {
			t.Error(g.name, "writes into its arguments, or shares memory with them")
		}
		if listed(second) != want {
			t.Error(g.name, "has answers that share memory")
		}
		if listed(g.ask(given)) != want {
			t.Error(g.name, "is another one behind another call")
		}
	}
}

// listsOf are all lists of kids within t, those of all kids too.
func listsOf(t impl.Term) []terms {
	var lists []terms
	if cap(t.Kids) > 0 {
		lists = append(lists, t.Kids)
	}
	for _, kid := range t.Kids {
		lists = append(lists, listsOf(kid)...)
	}
	return lists
}

func TestNoTwoListsOfAGreetingShareMemory(t *testing.T) {
	for _, g := range greetings() {
		seen := map[*impl.Term]bool{}
		for _, answer := range g.ask(roomyEach(g.given)) {
			for _, list := range listsOf(answer) {
				for i := range list[:cap(list)] {
					if at := &list[:cap(list)][i]; seen[at] {
						t.Fatal(g.name, "has lists that share memory")
					} else {
						seen[at] = true
					}
				}
			}
		}
	}
}

// oddGreetings are terms of all that chapter 8 reads, right ones and others.
func oddGreetings() terms {
	e, s, key := atom(20), atom(40), atom(10)
	cert := someCert(key)
	said := rightReply(s, e, key, cert)
	list := terms{
		e, s, key, cert, pub(e), pub(s), share(e, s), helloOf(e), said, doneOf(share(e, s)), signedBoth(key, e, s), signedBoth(s, e, s),
		pair(text("hello"), e), pair(text("reply"), pub(s)), pair(text("reply"), pair(pub(s), e)), pair(text("reply"), pair(e, e)), pair(text("hell"), pub(e)),
		replyWith(pub(s), share(e, s), e), replyWith(pub(s), share(s, s), pair(e, e)), replyWith(pub(e), share(e, s), pair(e, e)), replyWith(hash(s), share(e, s), pair(e, e)),
		term(impl.TmPub, e, e), term(impl.TmPub), {Op: impl.TmPub, N: 1, Kids: terms{e}}, {}, {Op: 9, Kids: terms{e}}, tree(190), tree(200), tree(201),
	}
	return append(list, badTerms()[:12]...)
}

func TestGreetingsAreNotWrittenInto(t *testing.T) {
	was := oddGreetings()
	list := roomyEach(was)
	for _, a := range list {
		impl.Hello(a)
		impl.HelloOf(a)
		impl.Done(a)
		for i, b := range list {
			impl.Both(a, b)
			impl.ReplyOf(a, b)
			for j, c := range list {
				impl.Reply(a, b, c, list[(i+j)%len(list)])
				impl.Proved(a, b, c, list[(i+j)%len(list)], "mx.a", 50)
				impl.Proved(list[0], a, list[3], c, "mx.a", 50)
			}
		}
		if !untouchedEach(list, was) {
			t.Fatal("written into, with", shown(a))
		}
	}
}

// greetingsOf are all answers of chapter 8 at four terms, as text; the answers
// are overwritten behind that.
func greetingsOf(a, b, c, d impl.Term) string {
	read, heard := impl.HelloOf(a)
	said, done := impl.Reply(a, b, c, d)
	four, got := fourOf(a, b)
	list := append(terms{impl.Both(a, b), impl.Hello(a), read, said, impl.Done(a)}, four...)
	told := ""
	for _, x := range list {
		told += impl.TermText(x) + "\n"
		spoil(x)
	}
	for _, yes := range []bool{heard, done, got, impl.Proved(a, b, c, d, "mx.a", 50)} {
		if yes {
			told += "yes "
		}
	}
	return told
}

// What is asked first, and what was asked before, is nothing to an answer.
func TestGreetingsAreNotKept(t *testing.T) {
	list := oddGreetings()
	ask := func(i int) string {
		n := len(list)
		return greetingsOf(list[i%n], list[i/n], list[(3+i)%n], list[(10+i/7)%n])
	}
	var first []string
	for i := range len(list) * len(list) {
		first = append(first, ask(i))
	}
	for i := len(first) - 1; i >= 0; i-- {
		if again := ask(i); again != first[i] {
			t.Fatalf("%d: %q %q", i, first[i], again)
		}
	}
}
