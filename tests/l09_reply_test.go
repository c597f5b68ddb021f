package tests

import (
	"testing"

	"loop.example/g00328/impl"
)

// repliedTo is c behind a reply of the secret s, with that proof or without it.
func repliedTo(c impl.Client, s impl.Term, proved bool) (impl.Client, terms) {
	both := shareOf(atom(c.Eph), s)
	c.Step, c.Tls, c.Share, c.Proved, c.Out = impl.ClMail, true, both, proved, 2
	return c, terms{doneOf(both), sealedLine(both, 1, 1, text("mail"))}
}

func TestHearReplyText(t *testing.T) {
	c := mustBe(openClient(impl.ClReply))
	got, said := impl.ClientHear(c, rightReply(atom(40), atom(20), atom(10), someCert(atom(10))), 50)
	want := "seal(hash(pair(share(20,40),<1>)),pair(<0>,<done>)) seal(hash(pair(share(20,40),<1>)),pair(<1>,<mail>))"
	if listed(said) != want {
		t.Error(listed(said))
	}
	if got.Step != impl.ClMail || !got.Tls || !got.Proved || got.In != 0 || got.Out != 2 || impl.TermText(got.Share) != "share(20,40)" || !impl.ClientOk(got) {
		t.Error(told(got))
	}
}

func TestHearReplyWithAProof(t *testing.T) {
	key := atom(10)
	for _, c := range standings(impl.ClReply) {
		for _, eph := range []int{20, 0, 40, impl.MaxAtom} {
			for _, s := range shortTerms() {
				for _, now := range []int{0, 50, -1} {
					c.Eph = eph
					want, says := repliedTo(c, s, true)
					hears(t, c, rightReply(s, atom(eph), key, someCert(key)), now, want, says...)
				}
			}
		}
	}
}

// Out is 1 ahead of what is said, and In stays, whatever they were.
func TestHearReplyCounts(t *testing.T) {
	for _, n := range []int{0, 1, 2, 50, 99, 100} {
		for _, m := range []int{0, 1, 2, 50, 99, 100} {
			for _, c := range standings(impl.ClReply) {
				c.In, c.Out = n, m
				want, says := repliedTo(c, atom(40), true)
				if want.In != n || want.Out != 2 {
					t.Fatal(told(want))
				}
				hears(t, c, rightReply(atom(40), atom(20), atom(10), someCert(atom(10))), 0, want, says...)
			}
		}
	}
}

// unproved are replies to the secret 20 that are read, but prove nothing of mx.a.
func unproved() map[string]impl.Term {
	e, s, key := atom(20), atom(40), atom(10)
	both, cert, signed := share(e, s), someCert(key), signedBoth(key, e, s)
	with := func(cert, sign impl.Term) impl.Term { return replyWith(pub(s), both, pair(cert, sign)) }
	evil := certTerm(atom(1), text("evil.e"), pub(atom(501)), text("50"))
	return map[string]impl.Term{
		"of another host":          with(certTerm(atom(1), text("m2.a"), pub(key), text("50")), signed),
		"of the outsider":          with(evil, signedBoth(atom(501), e, s)),
		"by another authority":     with(certTerm(atom(2), text("mx.a"), pub(key), text("50")), signed),
		"by its own authority":     with(certTerm(key, text("mx.a"), pub(key), text("50")), signed),
		"signed by another":        with(cert, signedBoth(atom(501), e, s)),
		"signed by the pub":        with(cert, signedBoth(pub(key), e, s)),
		"signed for another":       with(cert, signedBoth(key, atom(21), s)),
		"signed of another":        with(cert, signedBoth(key, e, atom(41))),
		"signed the other way":     with(cert, signedBoth(key, s, e)),
		"secrets signed":           with(cert, sign(key, bothOf(e, s))),
		"not signed":               with(cert, bothOf(pub(e), pub(s))),
		"the share signed":         with(cert, sign(key, both)),
		"its two in another order": with(signed, cert),
		"certificate twice":        with(cert, cert),
		"signed twice":             with(signed, signed),
		"no certificate":           with(text(""), signed),
		"nothing":                  with(text(""), text("")),
		"atoms":                    with(atom(1), atom(2)),
	}
}

// Who must have a proof fails without it, and has nothing of what was come to.
func TestHearReplyWithoutAProof(t *testing.T) {
	for name, x := range unproved() {
		for _, c := range standings(impl.ClReply) {
			if readsNone(atom(20), x) {
				t.Fatal("is not read itself:", name)
			}
			if c.Must {
				hears(t, c, x, 0, at(c, impl.ClFail))
				continue
			}
			want, says := repliedTo(c, atom(40), false)
			hears(t, c, x, 0, want, says...)
		}
	}
	failed, said := impl.ClientHear(mustBe(openClient(impl.ClReply)), unproved()["of the outsider"], 0)
	if failed.Step != impl.ClFail || failed.Tls || failed.Proved || !isZero(failed.Share) || failed.In != 0 || failed.Out != 0 || len(said) != 0 {
		t.Error(told(failed), listed(said))
	}
}

func TestHearReplyUpToItsEnd(t *testing.T) {
	for until, digits := range goodUntils() {
		x := rightReply(atom(40), atom(20), atom(10), certTerm(atom(1), text("mx.a"), pub(atom(10)), text(digits)))
		for _, now := range []int{until - 1, until, until + 1, until + 2} {
			for _, c := range standings(impl.ClReply) {
				proved := now <= until
				if c.Must && !proved {
					hears(t, c, x, now, at(c, impl.ClFail))
					continue
				}
				want, says := repliedTo(c, atom(40), proved)
				hears(t, c, x, now, want, says...)
			}
		}
	}
}

func TestHearReplyForItsHostAlone(t *testing.T) {
	for _, mine := range goodHosts() {
		for _, theirs := range goodHosts() {
			x := rightReply(atom(40), atom(20), atom(10), certTerm(atom(1), text(theirs), pub(atom(10)), text("50")))
			must, may := mustBe(openClient(impl.ClReply)), openClient(impl.ClReply)
			must.Host, may.Host = mine, mine
			want, says := repliedTo(may, atom(40), mine == theirs)
			hears(t, may, x, 0, want, says...)
			if mine != theirs {
				hears(t, must, x, 0, at(must, impl.ClFail))
			}
		}
	}
}

// notReplied are terms that are TermOk, and no reply to the secret 20.
func notReplied() terms {
	e, s, key := atom(20), atom(40), atom(10)
	both, proof := share(e, s), pair(someCert(key), signedBoth(key, e, s))
	zero, one, reply := text("0"), text("1"), text("reply")
	list := terms{
		rightReply(s, atom(21), key, someCert(key)), rightReply(s, atom(19), key, someCert(key)), rightReply(s, s, key, someCert(key)),
		replyWith(pub(s), share(s, s), proof), replyWith(pub(e), both, proof), replyWith(s, both, proof), replyWith(hash(s), both, proof), replyWith(pub(s), both, s),
		sealedReply(text("hello"), pub(s), both, zero, zero, proof), sealedReply(text("Reply"), pub(s), both, zero, zero, proof), sealedReply(atom(1), pub(s), both, zero, zero, proof),
		sealedReply(reply, pub(s), both, one, zero, proof), sealedReply(reply, pub(s), both, zero, one, proof), sealedReply(reply, pub(s), both, text("2"), zero, proof),
		sealedLine(both, 2, 3, rightReply(s, e, key, someCert(key))), hash(rightReply(s, e, key, someCert(key))), pair(rightReply(s, e, key, someCert(key)), zero),
		helloOf(s), helloOf(e), doneOf(both), pair(reply, pair(pub(s), proof)),
	}
	for _, x := range goodTerms() {
		list = append(list, x)
	}
	for _, s := range oddLines() {
		list = append(list, text(s))
	}
	return list
}

func TestHearWhatIsNoReply(t *testing.T) {
	for _, x := range notReplied() {
		if !impl.TermOk(x) {
			t.Fatal("is not ok itself:", shown(x))
		}
		for _, c := range standings(impl.ClReply) {
			hears(t, c, x, 0, at(c, impl.ClFail))
		}
	}
}

// A reply is nothing at another step.
func TestHearReplyAtAnotherStep(t *testing.T) {
	x := rightReply(atom(40), atom(20), atom(10), someCert(atom(10)))
	for step := impl.ClGreet; step <= impl.ClBody; step++ {
		for _, c := range standings(step) {
			if step != impl.ClReply {
				hears(t, c, x, 0, at(c, impl.ClFail))
			}
		}
	}
}

// The whole way of a letter, with a seal and without one.
func TestHearALetterThrough(t *testing.T) {
	c, _ := impl.ClientNew("mx.a", true, 20, 30)
	both := share(atom(20), atom(40))
	sealed := func(n int, s string) impl.Term { return sealedLine(both, 2, n, text(s)) }
	for i, turn := range []struct {
		hear impl.Term
		says terms
		step int
	}{
		{text("220"), terms{text("ehlo")}, impl.ClEhlo},
		{text("250 starttls"), terms{text("starttls")}, impl.ClReady},
		{text("220"), terms{helloOf(atom(20))}, impl.ClReply},
		{rightReply(atom(40), atom(20), atom(10), someCert(atom(10))), terms{doneOf(both), sealedLine(both, 1, 1, text("mail"))}, impl.ClMail},
		{sealed(0, "250"), terms{sealedLine(both, 1, 2, text("rcpt"))}, impl.ClRcpt},
		{sealed(1, "250"), terms{sealedLine(both, 1, 3, text("data"))}, impl.ClData},
		{sealed(2, "354"), terms{sealedLine(both, 1, 4, pair(text("body"), atom(30)))}, impl.ClBody},
		{sealed(3, "250"), nil, impl.ClDone},
		{sealed(4, "250"), nil, impl.ClDone},
	} {
		var said terms
		c, said = impl.ClientHear(c, turn.hear, 50)
		if c.Step != turn.step || !alike(said, turn.says) || !impl.ClientOk(c) {
			t.Fatal(i, told(c), listed(said))
		}
	}
	if c.In != 4 || c.Out != 5 {
		t.Error(told(c))
	}
	open, _ := impl.ClientNew("mx.a", false, 20, 30)
	for i, turn := range []turn{
		{0, "220", terms{text("ehlo")}, impl.ClEhlo}, {0, "250", terms{text("mail")}, impl.ClMail}, {0, "250", terms{text("rcpt")}, impl.ClRcpt},
		{0, "250", terms{text("data")}, impl.ClData}, {0, "354", terms{pair(text("body"), atom(30))}, impl.ClBody}, {0, "250", nil, impl.ClDone},
	} {
		var said terms
		open, said = impl.ClientHear(open, text(turn.line), 0)
		if open.Step != turn.next || !alike(said, turn.says) || !impl.ClientOk(open) || open.In != 0 || open.Out != 0 {
			t.Fatal(i, told(open), listed(said))
		}
	}
}
