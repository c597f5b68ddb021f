package tests

import (
	"maps"
	"slices"
	"testing"

	"loop.example/g00328/impl"
)

// saysBeside tells whether the atom n stands within t, elsewhere than in what is
// sealed by that key.
func saysBeside(t impl.Term, n int, key impl.Term) bool {
	if t.Op == impl.TmSeal && order(t.Kids[0], key) == 0 {
		return false
	}
	if order(t, atom(n)) == 0 {
		return true
	}
	for _, kid := range t.Kids {
		if saysBeside(kid, n, key) {
			return true
		}
	}
	return false
}

func TestWhoMustHaveAProofGoesOnWithNobodyWhoCanNotSeal(t *testing.T) {
	c, _ := impl.ClientNew("mx.a", true, 20, 30)
	c, _ = impl.ClientHear(c, text("220"), 0)
	failed, said := impl.ClientHear(c, text("250"), 0)
	if want := at(c, impl.ClFail); !sameClient(failed, want) || len(said) != 0 {
		t.Fatal(told(failed), listed(said))
	}
	list := append(notReplied(), rightReply(atom(40), atom(20), atom(10), someCert(atom(10))))
	for _, x := range list {
		hears(t, failed, x, 0, failed)
	}
	// Whatever else it hears than that the other side seals, it does not go on.
	for _, x := range list {
		got, said := impl.ClientHear(c, x, 0)
		if seals := x.Op == impl.TmText && x.S == "250 starttls"; !seals && (got.Step != impl.ClFail || len(said) != 0) {
			t.Error(shown(x), told(got), listed(said))
		}
	}
}

// aheadOfAProof are all that who must have a proof says without it.
func aheadOfAProof(eph int) terms { return terms{text("ehlo"), text("starttls"), helloOf(atom(eph))} }

// talk is a client that hears one thing behind the other, and what an outsider
// has heard of that.
type talk struct {
	client impl.Client
	said   terms
	wire   terms
}

// outsider is what it knows ahead of all: certificates, and keys of its own.
func outsider() terms {
	evil := certTerm(atom(1), text("evil.e"), pub(atom(501)), text("50"))
	return terms{pub(atom(1)), atom(500), atom(501), evil, someCert(atom(10)), pub(atom(10))}
}

func newTalk(must bool) talk {
	c, _ := impl.ClientNew("mx.a", must, 20, 777777)
	return talk{client: c, wire: outsider()}
}

func (k *talk) hear(x impl.Term) terms {
	var said terms
	k.client, said = impl.ClientHear(k.client, x, 0)
	k.said = append(k.said, said...)
	k.wire = append(append(k.wire, x), said...)
	return said
}

// withoutProof are the replies that prove nothing, in the same order each time.
func withoutProof() terms {
	replies := unproved()
	var list terms
	for _, name := range slices.Sorted(maps.Keys(replies)) {
		list = append(list, replies[name])
	}
	return list
}

// any is something that is heard: of a host, of an outsider, or made up.
func (d *dice) any(c impl.Client) impl.Term {
	if c.Step == impl.ClReply && d.below(3) > 0 {
		if d.below(3) == 0 {
			return oneOf(d, withoutProof()...)
		}
		return rightReply(atom(40), atom(20), atom(10), someCert(atom(10)))
	}
	if d.below(10) > 0 {
		for _, turn := range turnsOf(c) {
			if turn.step == c.Step && d.below(2) == 0 {
				return heardAs(c, turn.line)
			}
		}
	}
	return d.heard(c)
}

func TestWhoMustHaveAProofSaysNothingOfALetterWithoutIt(t *testing.T) {
	d, through, failed := dice(93), 0, 0
	for range 3000 {
		k := newTalk(true)
		for range 12 {
			said := k.hear(d.any(k.client))
			c := k.client
			proved := c.Tls && c.Proved
			key := hash(pair(c.Share, text("1")))
			for _, x := range said {
				if !proved && !within(aheadOfAProof(20), x) {
					t.Fatal("said without a proof:", shown(x), told(c))
				}
				if saysBeside(x, 777777, key) {
					t.Fatal("the letter is told:", shown(x), told(c))
				}
			}
			if c.Step >= impl.ClMail && c.Step <= impl.ClDone && !proved {
				t.Fatal("went on without a proof:", told(c))
			}
		}
		switch k.client.Step {
		case impl.ClDone:
			through++
		case impl.ClFail:
			failed++
		}
	}
	if through < 20 || failed < 500 {
		t.Error("the talks ask for too little:", through, failed)
	}
}

// Who hears all, and has its own keys and certificates, does not know the letter
// that was told under a proof.
func TestTheLetterStaysUnknown(t *testing.T) {
	d, through, known := dice(94), 0, 0
	for range 300 {
		must, may := newTalk(true), newTalk(false)
		for range 12 {
			must.hear(d.any(must.client))
			may.hear(d.any(may.client))
		}
		if impl.Can(must.wire, atom(777777)) {
			t.Fatal("known:", told(must.client), listed(must.wire))
		}
		if must.client.Step == impl.ClDone {
			through++
		}
		if impl.Can(may.wire, atom(777777)) {
			known++
		}
	}
	if through < 3 || known < 3 {
		t.Error("the talks ask for too little:", through, known)
	}
}

// The outsider takes the place of the host, with a share that it knows: who need
// not have a proof tells it the letter, who must does not.
func TestTheOutsiderInThePlaceOfTheHost(t *testing.T) {
	evil := certTerm(atom(1), text("evil.e"), pub(atom(501)), text("50"))
	for _, must := range []bool{false, true} {
		k := newTalk(must)
		k.hear(text("220"))
		k.hear(text("250 starttls"))
		k.hear(text("220"))
		reply, _ := impl.Reply(atom(500), impl.Pub(atom(20)), atom(501), evil)
		if !impl.Can(k.wire, reply) {
			t.Fatal("the outsider can't reply")
		}
		k.hear(reply)
		for i, s := range []string{"250", "250", "354", "250"} {
			both := shareOf(atom(20), atom(500))
			k.hear(sealedLine(both, 2, i, text(s)))
		}
		if done, knows := k.client.Step == impl.ClDone, impl.Can(k.wire, atom(777777)); done == must || knows == must {
			t.Error(must, told(k.client), knows)
		}
		if must && !alike(k.said, aheadOfAProof(20)) {
			t.Error("said:", listed(k.said))
		}
	}
}

// The certificate is the host's, but not what is signed: the outsider hands on
// what it got for itself.
func TestAProofThatWasHandedOn(t *testing.T) {
	k := newTalk(true)
	k.hear(text("220"))
	k.hear(text("250 starttls"))
	k.hear(text("220"))
	real, _ := impl.Reply(atom(41), impl.Pub(atom(500)), atom(10), someCert(atom(10)))
	_, _, cert, signed, _ := impl.ReplyOf(atom(500), real)
	both, _ := impl.Agree(atom(500), impl.Pub(atom(20)))
	handed := impl.Pair(text("reply"), impl.Pair(impl.Pub(atom(500)), impl.Seal(impl.KeyOf(both, 0), 0, impl.Pair(cert, signed))))
	if !impl.Can(append(k.wire, real), handed) {
		t.Fatal("the outsider can't hand it on")
	}
	if said := k.hear(handed); len(said) != 0 || k.client.Step != impl.ClFail || k.client.Tls {
		t.Error(told(k.client), listed(said))
	}
}

// What was told ahead of the seal, or to another, is not heard behind it.
func TestWhatIsSaidAgainIsNotHeard(t *testing.T) {
	k := newTalk(true)
	for _, s := range []string{"220", "250 starttls", "220"} {
		k.hear(text(s))
	}
	k.hear(rightReply(atom(40), atom(20), atom(10), someCert(atom(10))))
	k.hear(heardAs(k.client, "250"))
	for _, x := range k.wire {
		got, said := impl.ClientHear(k.client, x, 0)
		if got.Step != impl.ClFail || len(said) != 0 {
			t.Error("heard:", shown(x), told(got))
		}
	}
}
