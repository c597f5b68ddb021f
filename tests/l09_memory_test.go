package tests

import (
	"fmt"
	"strings"
	"testing"

	"loop.example/g00328/impl"
)

// wholeClient is a client as a term, so that it is asked with all its texts and lists.
func wholeClient(c impl.Client) impl.Term { return pair(text(c.Host), c.Share) }

// allOf is an answer as text, all of it.
func allOf(c impl.Client, said terms) string {
	s := told(c) + impl.TermText(c.Share)
	for _, x := range said {
		s += " " + impl.TermText(x)
	}
	return s
}

// roomyClient is c with a host of its own memory and spare room behind all lists.
func roomyClient(c impl.Client) impl.Client {
	c.Host, c.Share = strings.Clone(c.Host), roomy(c.Share)
	return c
}

func untouchedClient(c, was impl.Client) bool {
	return sameClient(c, was) && untouched(c.Share, was.Share)
}

// bringing is an answer of chapter 9 that has a client and terms.
type bringing struct {
	name   string
	client impl.Client
	term   impl.Term
	ask    func(c impl.Client, t impl.Term) (impl.Client, terms)
}

// bringings have texts and lists of lists in each argument, and the same one more
// than once.
func bringings() []bringing {
	shared := hash(text("x"))
	s := pair(text("s"), shared)
	great := pair(pair(shared, text("c")), share(shared, shared))
	hear := func(c impl.Client, t impl.Term) (impl.Client, terms) { return impl.ClientHear(c, t, 0) }
	say := func(c impl.Client, t impl.Term) (impl.Client, terms) {
		got, said := impl.ClientSay(c, t)
		return got, terms{said}
	}
	wide := func(c impl.Client) impl.Client {
		if c.Tls {
			c.Share = great
		}
		return c
	}
	key := pair(shared, text("k"))
	var list []bringing
	for _, base := range bases() {
		c := wide(base)
		name := fmt.Sprintf("step %d tls %v", c.Step, c.Tls)
		list = append(list,
			bringing{name + " says", c, great, say},
			bringing{name + " says what is not ok", c, term(9, great, great, term(impl.TmText, shared)), say},
			bringing{name + " hears a term that is not ok", c, term(9, great, great), hear},
			bringing{name + " hears a reply", c, rightReply(s, atom(20), key, someCert(key)), hear},
			bringing{name + " hears a reply of no proof", c, replyWith(pub(s), shareOf(s, atom(20)), pair(great, great)), hear},
			bringing{name + " is not ok", clientWith(c, func(c *impl.Client) { c.In, c.Share = 101, term(9, great, great) }), heardAs(c, "250"), hear},
			bringing{name + " hears what is no line", c, great, hear},
			bringing{name + " says what is far too great", c, tree(5000), say},
			bringing{name + " has what is far too great", clientWith(c, func(c *impl.Client) { c.Share = tree(5000) }), heardAs(c, "250"), hear},
		)
		for _, s := range []string{"220", "250", "250 starttls", "354", "x"} {
			list = append(list, bringing{name + " hears " + s, c, heardAs(c, s), hear})
		}
	}
	return list
}

func TestBringingsAreNewMemory(t *testing.T) {
	for _, b := range bringings() {
		given, heard := roomyClient(b.client), roomy(b.term)
		first, said := b.ask(given, heard)
		second, again := b.ask(given, heard)
		want := allOf(second, again)
		for _, x := range append(terms{wholeClient(first)}, said...) {
			if sharesTexts(x, wholeClient(given), heard) || sharesTexts(x, append(again, wholeClient(second))...) {
				t.Error(b.name, "has a text of its arguments or of another answer")
			}
			spoil(x)
		}
		for i := range said {
			said[i] = impl.Term{Op: -9}
		}
		if !untouchedClient(given, b.client) || !untouched(heard, b.term) {
			t.Error(b.name, "writes into its arguments, or shares memory with them")
		}
		if allOf(second, again) != want {
			t.Error(b.name, "has answers that share memory")
		}
		if third, said := b.ask(given, heard); allOf(third, said) != want {
			t.Error(b.name, "is another one behind another call")
		}
	}
}

func TestNoTwoListsOfABringingShareMemory(t *testing.T) {
	many := 0
	for _, b := range bringings() {
		seen := map[*impl.Term]bool{}
		c, said := b.ask(roomyClient(b.client), roomy(b.term))
		for _, list := range append(listsOf(c.Share), listsOf(term(impl.TmPair, said...))...) {
			many++
			for i := range list[:cap(list)] {
				if at := &list[:cap(list)][i]; seen[at] {
					t.Fatal(b.name, "has lists that share memory")
				} else {
					seen[at] = true
				}
			}
		}
	}
	if many < 1000 {
		t.Error("the answers have too few lists:", many)
	}
}

// The texts of one answer lie apart from each other too.
func TestNoTwoTextsOfABringingShareMemory(t *testing.T) {
	for _, b := range bringings() {
		c, said := b.ask(roomyClient(b.client), roomy(b.term))
		for _, x := range said {
			if sharesTexts(wholeClient(c), x) {
				t.Fatal(b.name, "has a text of the client in what is said")
			}
		}
	}
}

func TestClientNewAndLinesAreNewMemory(t *testing.T) {
	host := strings.Clone("mx.a")
	if c, done := impl.ClientNew(host, true, 20, 30); !done || liesWithin(c.Host, host) {
		t.Error("the host is that of the argument")
	}
	line := text(strings.Clone("250"))
	if s, ok := impl.Line(line); !ok || liesWithin(s, line.S) {
		t.Error("the line is that of the argument")
	}
	for _, c := range []impl.Client{openClient(impl.ClMail), sealedClient(impl.ClMail)} {
		x := heardAs(c, strings.Clone("250"))
		if s, ok := impl.ClientLine(c, x); !ok || sharesTexts(text(s), x) {
			t.Error("the line is that of the argument:", c.Tls)
		}
	}
}

// oddClients are right ones and others.
func oddClients() []impl.Client {
	list := append(bases(), impl.Client{}, openClient(0), openClient(11), mustBe(openClient(impl.ClMail)), mustBe(sealedClient(impl.ClBody)))
	for _, x := range append(badTerms()[:12], goodTerms()[20:30]...) {
		list = append(list, clientWith(provedClient(impl.ClMail), func(c *impl.Client) { c.Share = x }), clientWith(openClient(impl.ClMail), func(c *impl.Client) { c.Share = x }))
	}
	return list
}

// oddHeard are terms that a client of those hears, and others.
func oddHeard() terms {
	both := share(atom(20), atom(40))
	list := terms{
		text("220"), text("250"), text("250 starttls"), text("354"), text(""), rightReply(atom(40), atom(20), atom(10), someCert(atom(10))),
		sealedLine(both, 2, 3, text("250")), sealedLine(both, 2, 3, text("354")), sealedLine(both, 2, 3, text("220")), sealedLine(both, 2, 3, atom(1)), sealedLine(both, 1, 3, text("250")),
	}
	return append(list, append(unproved()["of the outsider"].Kids, badTerms()[:25]...)...)
}

func TestClientsAreNotWrittenInto(t *testing.T) {
	were, heard := oddClients(), oddHeard()
	given := roomyEach(heard)
	for _, was := range were {
		c := roomyClient(was)
		impl.ClientOk(c)
		for _, x := range given {
			impl.Line(x)
			impl.ClientLine(c, x)
			impl.ClientSay(c, x)
			impl.ClientHear(c, x, 50)
		}
		if !untouchedClient(c, was) || !untouchedEach(given, heard) {
			t.Fatal("written into:", told(was))
		}
	}
}

// clientsOf are all answers of chapter 9 at a client and a term, as text; the
// answers are overwritten behind that.
func clientsOf(c impl.Client, x impl.Term) string {
	made, done := impl.ClientNew(c.Host, c.Must, c.Eph, c.Body)
	line, ok := impl.Line(x)
	heard, opened := impl.ClientLine(c, x)
	saying, said := impl.ClientSay(c, x)
	hearing, says := impl.ClientHear(c, x, 50)
	all := fmt.Sprint(impl.ClientOk(c), told(made), done, line, ok, heard, opened, allOf(saying, terms{said}), allOf(hearing, says))
	for _, answer := range append(says, saying.Share, said, hearing.Share) {
		spoil(answer)
	}
	return all
}

// What is asked first, and what was asked before, is nothing to an answer.
func TestClientsAreNotKept(t *testing.T) {
	clients, heard := oddClients(), oddHeard()
	ask := func(i int) string { return clientsOf(clients[i%len(clients)], heard[i/len(clients)]) }
	var first []string
	for i := range len(clients) * len(heard) {
		first = append(first, ask(i))
	}
	for i := len(first) - 1; i >= 0; i-- {
		if again := ask(i); again != first[i] {
			t.Fatalf("%d: %q %q", i, first[i], again)
		}
	}
}
