package tests

import (
	"testing"

	"loop.example/g00328/impl"
)

// greeted is s behind a greeting of the secret other, and its reply.
func greeted(s impl.Server, other impl.Term) (impl.Server, terms) {
	reply := rightReply(atom(s.Eph), other, atom(s.Key), s.Cert)
	s.Step, s.Share = impl.SvDone, shareOf(atom(s.Eph), other)
	return s, terms{reply}
}

func TestTakeHelloText(t *testing.T) {
	s := openServer(impl.SvHello)
	got, said := impl.ServerHear(s, helloOf(atom(20)))
	want := "pair(<reply>,pair(pub(40),seal(hash(pair(share(20,40),<0>)),pair(<0>,pair(sign(1,pair(<mx.a>,pair(pub(10),<50>))),sign(10,hash(pair(pub(20),pub(40)))))))))"
	if len(said) != 1 || impl.TermText(said[0]) != want {
		t.Error(listed(said))
	}
	if got.Step != impl.SvDone || impl.TermText(got.Share) != "share(20,40)" || got.Tls || got.In != 0 || got.Out != 0 || !impl.ServerOk(got) {
		t.Error(toldServer(got))
	}
}

// The reply is told as it is, whatever was counted, and Out does not count it.
func TestTakeHelloOfAnySecret(t *testing.T) {
	for _, base := range []impl.Server{openServer(impl.SvHello), sealedServer(impl.SvHello)} {
		for _, eph := range []int{40, 0, 1, 20, 10, impl.MaxAtom} {
			for _, key := range []int{10, 0, 40, impl.MaxAtom} {
				for _, other := range shortTerms() {
					for _, n := range []int{0, 3, 100} {
						s := serverWith(base, func(s *impl.Server) { s.Eph, s.Key, s.In, s.Out = eph, key, n, n })
						want, says := greeted(s, other)
						takes(t, s, helloOf(other), want, says...)
					}
				}
			}
		}
	}
}

func TestTakeHelloWithAnyCert(t *testing.T) {
	for _, cert := range shortTerms() {
		s := serverWith(openServer(impl.SvHello), func(s *impl.Server) { s.Cert = cert })
		want, says := greeted(s, atom(20))
		takes(t, s, helloOf(atom(20)), want, says...)
	}
}

// It is what the program of chapter 8 replies, and who greeted reads it.
func TestTakeHelloIsReadByWhoGreeted(t *testing.T) {
	for _, secret := range shortTerms() {
		s := openServer(impl.SvHello)
		got, said := impl.ServerHear(s, impl.Hello(secret))
		if len(said) != 1 {
			t.Fatal(shown(secret), toldServer(got))
		}
		reply, _ := impl.Reply(impl.Atom(40), impl.Pub(secret), impl.Atom(10), s.Cert)
		own, both, cert, signed, read := impl.ReplyOf(secret, said[0])
		if order(said[0], reply) != 0 || !read || order(both, got.Share) != 0 || order(own, impl.Pub(impl.Atom(40))) != 0 {
			t.Error("not read:", shown(secret), toldServer(got))
		}
		if !impl.Proved(secret, own, cert, signed, "mx.a", 50) || impl.Proved(secret, own, cert, signed, "mx.a", 51) || impl.Proved(secret, own, cert, signed, "m2.a", 50) {
			t.Error("proves something else:", shown(secret))
		}
	}
}

// Where a greeting or a certificate is so great that there is no room for the
// reply, there is none.
func TestTakeHelloWithoutAReply(t *testing.T) {
	replied, not := 0, 0
	ask := func(s impl.Server, other impl.Term) {
		x := helloOf(other)
		want, says := greeted(s, other)
		_, done := impl.Reply(impl.Atom(s.Eph), impl.Pub(other), impl.Atom(s.Key), s.Cert)
		if !impl.TermOk(x) || done != impl.TermOk(says[0]) {
			t.Fatal(shown(x), done)
		}
		if done {
			replied++
			takes(t, s, x, want, says...)
			return
		}
		not++
		takes(t, s, x, failed(s))
	}
	for size := 1; size <= impl.MaxTerm-3; size++ {
		ask(openServer(impl.SvHello), tree(size))
		ask(sealedServer(impl.SvHello), tree(size))
	}
	for size := 1; size <= impl.MaxTerm; size++ {
		s := serverWith(openServer(impl.SvHello), func(s *impl.Server) { s.Cert = tree(size) })
		ask(s, atom(20))
		ask(s, tree(30))
	}
	if replied < 300 || not < 250 {
		t.Error("the terms ask for too little:", replied, not)
	}
}

func TestTakeHelloHearsNoLine(t *testing.T) {
	for _, s := range []impl.Server{openServer(impl.SvHello), sealedServer(impl.SvHello)} {
		for _, line := range spoken() {
			takes(t, s, text(line), failed(s))
			takes(t, s, sealedLine(share(atom(20), atom(40)), 1, s.In, text(line)), failed(s))
		}
	}
}

func TestTakeHelloHearsNothingElse(t *testing.T) {
	e := atom(20)
	list := terms{
		pair(text("body"), atom(30)), doneOf(share(e, atom(40))), doneOf(share(atom(40), atom(40))), rightReply(atom(40), e, atom(10), someCert(atom(10))),
		pub(e), e, text("hello"), pair(pub(e), text("hello")), pair(text("hello"), e), pair(text("hello"), hash(e)), pair(text("hello"), text("hello")), pair(text("hello"), pair(pub(e), pub(e))), pair(text("hello"), helloOf(e)),
		pair(pair(text("hello"), pub(e)), text("x")), hash(helloOf(e)), sign(atom(10), helloOf(e)), seal(atom(10), helloOf(e)), sealedLine(share(e, atom(40)), 1, 3, helloOf(e)), sealedLine(share(e, atom(40)), 1, 0, helloOf(e)), term(impl.TmShare, text("hello"), pub(e)), seal(text("hello"), pub(e)), sign(text("hello"), pub(e)),
	}
	for _, word := range otherWords() {
		list = append(list, pair(text(word), pub(e)))
	}
	list = append(list, goodTerms()...)
	heard := 0
	for _, s := range []impl.Server{openServer(impl.SvHello), sealedServer(impl.SvHello)} {
		for _, x := range list {
			if impl.TermOk(x) {
				heard++
				takes(t, s, x, failed(s))
			}
		}
	}
	if heard < 150 {
		t.Error("the terms ask for too little:", heard)
	}
}

// doneWith is s behind Done: the counts begin anew, whatever they were.
func doneWith(s impl.Server) impl.Server {
	s.Step, s.Tls, s.In, s.Out = impl.SvLine, true, 1, 0
	return s
}

func TestTakeDone(t *testing.T) {
	for _, base := range []impl.Server{openServer(impl.SvDone), sealedServer(impl.SvDone)} {
		for _, in := range []int{0, 1, 2, 57, 99, 100} {
			for _, out := range []int{0, 1, 2, 57, 99, 100} {
				s := serverWith(base, func(s *impl.Server) { s.In, s.Out = in, out })
				takes(t, s, doneOf(s.Share), doneWith(s))
				takes(t, s, impl.Done(s.Share), doneWith(s))
			}
		}
	}
	got, said := impl.ServerHear(openServer(impl.SvDone), doneOf(share(atom(20), atom(40))))
	if got.Step != impl.SvLine || !got.Tls || got.In != 1 || got.Out != 0 || impl.TermText(got.Share) != "share(20,40)" || len(said) != 0 || !impl.ServerOk(got) {
		t.Error(toldServer(got), listed(said))
	}
}

func TestTakeDoneOfAnyShare(t *testing.T) {
	for _, both := range goodTerms() {
		s := serverWith(openServer(impl.SvDone), func(s *impl.Server) { s.Share = both })
		x := doneOf(both)
		if !impl.TermOk(x) {
			// There is no room for what would be heard, nor a key for another.
			takes(t, s, x, s)
			takes(t, s, seal(hash(text("1")), pair(text("0"), text("done"))), failed(s))
			continue
		}
		takes(t, s, x, doneWith(s))
	}
}

func TestTakeDoneByItsKeyAndNumberAlone(t *testing.T) {
	for _, s := range []impl.Server{openServer(impl.SvDone), sealedServer(impl.SvDone)} {
		for key := -2; key <= 11; key++ {
			for number := -2; number <= 11; number++ {
				x := sealedLine(s.Share, key, number, text("done"))
				if key == 1 && number == 0 {
					takes(t, s, x, doneWith(s))
				} else {
					takes(t, s, x, failed(s))
				}
			}
		}
		for _, other := range append(shortTerms(), share(atom(20), atom(41)), share(atom(19), atom(40)), share(atom(40), atom(40)), atom(20), atom(40)) {
			takes(t, s, doneOf(other), failed(s))
		}
	}
}

func TestTakeDoneHearsNothingElse(t *testing.T) {
	for _, s := range []impl.Server{openServer(impl.SvDone), sealedServer(impl.SvDone)} {
		key := hash(pair(s.Share, text("1")))
		list := terms{
			helloOf(atom(20)), pair(text("body"), atom(30)), sealedLine(s.Share, 1, 0, pair(text("body"), atom(30))), sealedLine(s.Share, 1, 0, atom(0)), sealedLine(s.Share, 1, 0, hash(text("done"))), sealedLine(s.Share, 1, 0, doneOf(s.Share)), sealedLine(s.Share, 1, 0, pair(text("done"), text("done"))),
			seal(key, text("done")), seal(key, pair(text("done"), text("0"))), seal(key, pair(atom(0), text("done"))), seal(key, pair(text("00"), text("done"))), seal(key, pair(text("-0"), text("done"))), seal(key, pair(text(""), text("done"))),
			sign(key, pair(text("0"), text("done"))), pair(key, pair(text("0"), text("done"))), hash(doneOf(s.Share)), pair(doneOf(s.Share), doneOf(s.Share)), seal(s.Share, pair(text("0"), text("done"))), seal(hash(s.Share), pair(text("0"), text("done"))), seal(hash(pair(s.Share, atom(1))), pair(text("0"), text("done"))),
			rightReply(atom(40), atom(20), atom(10), someCert(atom(10))),
		}
		for _, line := range append(spoken(), "DONE", "") {
			list = append(list, text(line))
			if line != "done" {
				list = append(list, sealedLine(s.Share, 1, 0, text(line)), sealedLine(s.Share, 1, s.In, text(line)))
			}
		}
		for _, x := range append(list, goodTerms()...) {
			takes(t, s, x, failed(s))
		}
	}
}
