package tests

import (
	"fmt"
	"strings"
	"testing"

	"loop.example/g00328/impl"
)

// wholeServer is a server as a term, so that it is asked with all its texts and
// lists of terms.
func wholeServer(s impl.Server) impl.Term { return term(impl.TmPair, text(s.Host), s.Cert, s.Share) }

// allOfServer is an answer as text, all of it.
func allOfServer(s impl.Server, said terms) string {
	all := toldServer(s) + impl.TermText(s.Cert) + impl.TermText(s.Share)
	for _, x := range said {
		all += " " + impl.TermText(x)
	}
	return all
}

// roomyServer is s with a host of its own memory and spare room behind all lists.
func roomyServer(s impl.Server) impl.Server {
	s.Host, s.Cert, s.Share = strings.Clone(s.Host), roomy(s.Cert), roomy(s.Share)
	got := append(make([]int, 0, len(s.Got)+spareRoom), s.Got...)
	for i := range got[len(got):cap(got)] {
		got[:cap(got)][len(got)+i] = -7
	}
	s.Got = got
	return s
}

// untouchedServer tells whether s is as roomyServer made it of was.
func untouchedServer(s, was impl.Server) bool {
	for _, n := range s.Got[len(s.Got):cap(s.Got)] {
		if n != -7 {
			return false
		}
	}
	return sameServer(s, was) && untouched(s.Share, was.Share) && untouched(s.Cert, was.Cert)
}

// taking is a server and what it hears.
type taking struct {
	name   string
	server impl.Server
	term   impl.Term
}

// takings have texts and lists of lists in each argument, and the same one more
// than once.
func takings() []taking {
	shared := hash(text("x"))
	great := pair(pair(shared, text("c")), share(shared, shared))
	var list []taking
	for _, base := range servers() {
		s := serverWith(base, func(s *impl.Server) {
			s.Cert = great
			if s.Tls || s.Step == impl.SvDone {
				s.Share = great
			}
		})
		name := fmt.Sprintf("step %d tls %v", s.Step, s.Tls)
		list = append(list,
			taking{name + " hears a greeting", s, helloOf(pair(shared, text("e")))},
			taking{name + " hears that it is done", s, doneOf(s.Share)},
			taking{name + " hears a letter", s, sentTo(s, pair(text("body"), atom(30)))},
			taking{name + " hears its first letter", serverWith(s, func(s *impl.Server) { s.Got = nil }), sentTo(s, pair(text("body"), atom(30)))},
			taking{name + " hears a letter too much", serverWith(s, func(s *impl.Server) { s.Got = make([]int, 20) }), sentTo(s, pair(text("body"), atom(30)))},
			taking{name + " hears what is no line", s, great},
			taking{name + " hears a term that is not ok", s, term(9, great, great)},
			taking{name + " is not ok", serverWith(s, func(s *impl.Server) { s.In, s.Cert, s.Share = 101, term(9, great, great), term(9, great, great) }), sentTo(s, text("mail"))},
			taking{name + " has what is far too great", serverWith(s, func(s *impl.Server) { s.Cert, s.Share = tree(5000), tree(5000) }), sentTo(s, text("mail"))},
			taking{name + " has got too much", serverWith(s, func(s *impl.Server) { s.Got = make([]int, 50) }), sentTo(s, text("mail"))},
		)
		for _, line := range []string{"ehlo", "starttls", "mail", "rcpt", "data", "quit", "x"} {
			list = append(list, taking{name + " hears " + line, s, sentTo(s, text(line))})
		}
	}
	return list
}

func TestTakingsAreNewMemory(t *testing.T) {
	for _, k := range takings() {
		given, heard := roomyServer(k.server), roomy(k.term)
		first, said := impl.ServerHear(given, heard)
		second, again := impl.ServerHear(given, heard)
		want := allOfServer(second, again)
		for _, x := range append(terms{wholeServer(first)}, said...) {
			if sharesTexts(x, wholeServer(given), heard) || sharesTexts(x, append(again, wholeServer(second))...) {
				t.Error(k.name, "has a text of its arguments or of another answer")
			}
		}
		spoilServer(first, said)
		if !untouchedServer(given, k.server) || !untouched(heard, k.term) {
			t.Error(k.name, "writes into its arguments, or shares memory with them")
		}
		if allOfServer(second, again) != want {
			t.Error(k.name, "has answers that share memory")
		}
		if third, said := impl.ServerHear(given, heard); allOfServer(third, said) != want {
			t.Error(k.name, "is another one behind another call")
		}
	}
}

// spoilServer overwrites all lists of an answer, with the spare room behind them.
func spoilServer(s impl.Server, said terms) {
	for _, x := range append(terms{s.Cert, s.Share}, said...) {
		spoil(x)
	}
	for i := range said[:cap(said)] {
		said[:cap(said)][i] = impl.Term{Op: -9}
	}
	for i := range s.Got[:cap(s.Got)] {
		s.Got[:cap(s.Got)][i] = -9
	}
}

// What is written behind a list of an answer is not seen in what was handed in.
func TestWhatIsGotIsApart(t *testing.T) {
	for _, k := range takings() {
		given := roomyServer(k.server)
		got, _ := impl.ServerHear(given, k.term)
		got.Got = append(got.Got, 1, 2, 3)
		for i := range got.Got {
			got.Got[i] = -1
		}
		if !untouchedServer(given, k.server) {
			t.Error(k.name, "has a list that is that of its argument")
		}
		// And the other way round.
		got, _ = impl.ServerHear(given, k.term)
		want := fmt.Sprint(got.Got)
		for i := range given.Got[:cap(given.Got)] {
			given.Got[:cap(given.Got)][i] = -9
		}
		if fmt.Sprint(got.Got) != want {
			t.Error(k.name, "has a list that its argument is written into")
		}
	}
}

func TestNoTwoListsOfATakingShareMemory(t *testing.T) {
	many := 0
	for _, k := range takings() {
		seen := map[*impl.Term]bool{}
		s, said := impl.ServerHear(roomyServer(k.server), roomy(k.term))
		for _, list := range listsOf(term(impl.TmPair, append(terms{s.Cert, s.Share}, said...)...)) {
			many++
			for i := range list[:cap(list)] {
				if at := &list[:cap(list)][i]; seen[at] {
					t.Fatal(k.name, "has lists that share memory")
				} else {
					seen[at] = true
				}
			}
		}
	}
	if many < 1000 {
		t.Error("the answers have too few lists:", many)
	}
}

// The texts of one answer lie apart from each other too.
func TestNoTwoTextsOfATakingShareMemory(t *testing.T) {
	for _, k := range takings() {
		s, said := impl.ServerHear(roomyServer(k.server), roomy(k.term))
		parts := append(terms{text(s.Host), s.Cert, s.Share}, said...)
		for i, x := range parts {
			if sharesTexts(x, parts[:i]...) {
				t.Fatal(k.name, "has a text of one part in another")
			}
		}
	}
}

func TestServerNewIsNewMemory(t *testing.T) {
	host := strings.Clone("mx.a")
	s, done := impl.ServerNew(host, 10, 40, 50)
	if !done || sharesTexts(wholeServer(s), text(host)) || sharesTexts(s.Cert, text(s.Host)) {
		t.Error("the host is that of the argument, or of the certificate")
	}
	other, _ := impl.ServerNew(host, 10, 40, 50)
	if sharesTexts(wholeServer(s), wholeServer(other)) {
		t.Error("two of them share a text")
	}
	want := allOfServer(other, nil)
	spoilServer(s, nil)
	if again, _ := impl.ServerNew(host, 10, 40, 50); allOfServer(other, nil) != want || allOfServer(again, nil) != want {
		t.Error("two of them share memory")
	}
}

// oddServers are right ones and others.
func oddServers() []impl.Server {
	list := append(servers(), impl.Server{}, openServer(0), sealedServer(6), serverWith(openServer(impl.SvLine), func(s *impl.Server) { s.Got = make([]int, 21) }), serverWith(sealedServer(impl.SvBody), func(s *impl.Server) { s.Got = make([]int, 20) }), serverWith(sealedServer(impl.SvLine), func(s *impl.Server) { s.Out = 100 }))
	for _, x := range append(badTerms()[:12], goodTerms()[20:30]...) {
		list = append(list, serverWith(sealedServer(impl.SvLine), func(s *impl.Server) { s.Share = x }), serverWith(openServer(impl.SvHello), func(s *impl.Server) { s.Cert = x }))
	}
	return list
}

// oddSent are terms that a server of those hears, and others.
func oddSent() terms {
	both := share(atom(20), atom(40))
	list := terms{
		text("ehlo"), text("starttls"), text("mail"), text("data"), text("quit"), text(""), helloOf(atom(20)), helloOf(tree(60)), doneOf(both), pair(text("body"), atom(30)),
		sealedLine(both, 1, 3, text("mail")), sealedLine(both, 1, 3, text("data")), sealedLine(both, 1, 3, text("starttls")), sealedLine(both, 1, 3, pair(text("body"), atom(30))), sealedLine(both, 1, 3, atom(1)), sealedLine(both, 2, 3, text("mail")),
	}
	return append(list, badTerms()[:25]...)
}

func TestServersAreNotWrittenInto(t *testing.T) {
	were, heard := oddServers(), oddSent()
	given := roomyEach(heard)
	for _, was := range were {
		s := roomyServer(was)
		impl.ServerOk(s)
		impl.ServerNew(s.Host, s.Key, s.Eph, 50)
		for _, x := range given {
			impl.ServerHear(s, x)
		}
		if !untouchedServer(s, was) || !untouchedEach(given, heard) {
			t.Fatal("written into:", toldServer(was))
		}
	}
}

// serversOf are all answers of chapter 10 at a server and a term, as text; the
// answers are overwritten behind that.
func serversOf(s impl.Server, x impl.Term) string {
	made, done := impl.ServerNew(s.Host, s.Key, s.Eph, s.In)
	greeting := impl.Greeting()
	hearing, says := impl.ServerHear(s, x)
	all := fmt.Sprint(impl.ServerOk(s), allOfServer(made, nil), done, impl.TermText(greeting), allOfServer(hearing, says))
	spoilServer(made, nil)
	spoilServer(hearing, says)
	return all
}

// What is asked first, and what was asked before, is nothing to an answer.
func TestServersAreNotKept(t *testing.T) {
	servers, heard := oddServers(), oddSent()
	ask := func(i int) string { return serversOf(servers[i%len(servers)], heard[i/len(servers)]) }
	var first []string
	for i := range len(servers) * len(heard) {
		first = append(first, ask(i))
	}
	for i := len(first) - 1; i >= 0; i-- {
		if again := ask(i); again != first[i] {
			t.Fatalf("%d: %q %q", i, first[i], again)
		}
	}
}

// Servers with terms of any depth, and with such that have no end, are answered too.
func TestServersOfDeepTerms(t *testing.T) {
	deep := atom(3)
	for range 200000 {
		deep = impl.Term{Op: impl.TmHash, Kids: terms{deep}}
	}
	s := serverWith(openServer(impl.SvLine), func(s *impl.Server) { s.Cert, s.Share = deep, deep })
	if got, said := impl.ServerHear(s, text("mail")); !impl.Same(got.Cert, deep) || !impl.Same(got.Share, deep) || got.Step != impl.SvLine || len(said) != 0 {
		t.Error("not as it was")
	}
	for _, base := range servers() {
		if got, said := impl.ServerHear(base, deep); !sameServer(got, base) || len(said) != 0 {
			t.Error("heard:", toldServer(got))
		}
		for _, endless := range (terms{ring(), pair(ring(), ring()), pub(ring())}) {
			if got, said := impl.ServerHear(base, endless); !sameServer(got, base) || len(said) != 0 {
				t.Error("heard:", toldServer(got))
			}
			s := serverWith(base, func(s *impl.Server) { s.Cert, s.Share = endless, endless })
			if got, said := impl.ServerHear(s, text("mail")); got.Step != s.Step || got.Cert.Op != endless.Op || got.Share.Op != endless.Op || len(said) != 0 {
				t.Error("not as it was:", got.Step)
			}
		}
	}
}
