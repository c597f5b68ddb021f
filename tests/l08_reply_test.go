package tests

import (
	"testing"

	"loop.example/g00328/impl"
)

// sealedReply is a reply's term written out, with those texts in the place of
// its word, of the number of KeyOf and of that of Seal.
func sealedReply(word, own, share, key, number, body impl.Term) impl.Term {
	return pair(word, pair(own, seal(hash(pair(share, key)), pair(number, body))))
}

// replyWith is a reply of that Pub, whose seal is right, with that in it.
func replyWith(own, share, body impl.Term) impl.Term {
	return sealedReply(text("reply"), own, share, text("0"), text("0"), body)
}

// rightReply is what Reply is to be, where other is the kid of its pub.
func rightReply(s, other, key, cert impl.Term) impl.Term {
	return replyWith(pub(s), shareOf(s, other), pair(cert, sign(key, bothOf(pub(other), pub(s)))))
}

// someCert is a certificate of the host mx.a up to 50.
func someCert(key impl.Term) impl.Term {
	return certTerm(atom(1), text("mx.a"), pub(key), text("50"))
}

// repliesNone tells whether Reply answers zero and false.
func repliesNone(s, pub, key, cert impl.Term) bool {
	got, done := impl.Reply(s, pub, key, cert)
	return !done && isZero(got)
}

// fourOf are the terms that ReplyOf answers, in its order.
func fourOf(e, t impl.Term) (terms, bool) {
	own, share, cert, sign, done := impl.ReplyOf(e, t)
	return terms{own, share, cert, sign}, done
}

// readsNone tells whether ReplyOf answers zeros and false.
func readsNone(e, t impl.Term) bool {
	got, done := fourOf(e, t)
	return !done && alike(got, make(terms, 4))
}

func readsTo(e, t impl.Term, want ...impl.Term) bool {
	got, done := fourOf(e, t)
	return done && alike(got, want)
}

func TestReplyText(t *testing.T) {
	got, done := impl.Reply(atom(40), pub(atom(20)), atom(10), someCert(atom(10)))
	want := "pair(<reply>,pair(pub(40),seal(hash(pair(share(20,40),<0>)),pair(<0>,pair(sign(1,pair(<mx.a>,pair(pub(10),<50>))),sign(10,hash(pair(pub(20),pub(40)))))))))"
	if !done || impl.TermText(got) != want {
		t.Error(impl.TermText(got), done)
	}
	got, done = impl.Reply(atom(20), pub(atom(40)), text("k"), text("c"))
	want = "pair(<reply>,pair(pub(20),seal(hash(pair(share(20,40),<0>)),pair(<0>,pair(<c>,sign(<k>,hash(pair(pub(40),pub(20)))))))))"
	if !done || impl.TermText(got) != want {
		t.Error(impl.TermText(got), done)
	}
}

func TestReplyIsReadAsItWas(t *testing.T) {
	key, cert := atom(10), someCert(atom(10))
	for _, e := range shortTerms() {
		heard, _ := impl.HelloOf(impl.Hello(e))
		for _, s := range shortTerms() {
			want := rightReply(s, e, key, cert)
			said, done := impl.Reply(s, heard, key, cert)
			if !done || order(said, want) != 0 {
				t.Fatal(shown(e), shown(s), shown(said), done)
			}
			if !readsTo(e, said, pub(s), shareOf(s, e), cert, sign(key, bothOf(pub(e), pub(s)))) {
				t.Error("not read as it was:", shown(e), shown(s))
			}
		}
	}
}

func TestBothComeToOneShare(t *testing.T) {
	for _, e := range shortTerms() {
		heard, _ := impl.HelloOf(impl.Hello(e))
		for _, s := range shortTerms() {
			said, done := impl.Reply(s, heard, atom(10), text("c"))
			theirs, agreed := impl.Agree(s, heard)
			own, mine, _, _, read := impl.ReplyOf(e, said)
			if !done || !agreed || !read || order(mine, theirs) != 0 {
				t.Fatal(shown(e), shown(s), done, agreed, read)
			}
			if again, ok := impl.Agree(e, own); !ok || order(again, mine) != 0 {
				t.Error("not what e and its Pub come to:", shown(e), shown(s))
			}
			if _, ok := impl.Open(impl.KeyOf(theirs, 1), 0, impl.Done(mine)); !ok {
				t.Error("the one can't open that the other is done:", shown(e), shown(s))
			}
		}
	}
}

func TestReplyOfAnyCertAndKey(t *testing.T) {
	e, s := atom(20), atom(40)
	for _, cert := range shortTerms() {
		for _, key := range shortTerms() {
			said, done := impl.Reply(s, pub(e), key, cert)
			if !done || order(said, rightReply(s, e, key, cert)) != 0 {
				t.Fatal(shown(cert), shown(key), shown(said), done)
			}
			if !readsTo(e, said, pub(s), share(e, s), cert, sign(key, bothOf(pub(e), pub(s)))) {
				t.Error("not read as it was:", shown(cert), shown(key))
			}
		}
	}
}

func TestReplyReadWithAnythingInIt(t *testing.T) {
	e, s := atom(20), atom(40)
	for _, cert := range shortTerms() {
		for _, signed := range shortTerms() {
			if !readsTo(e, replyWith(pub(s), share(e, s), pair(cert, signed)), pub(s), share(e, s), cert, signed) {
				t.Error(shown(cert), shown(signed))
			}
		}
	}
}

func TestReplyOfAnotherSecret(t *testing.T) {
	for _, e := range shortTerms() {
		for _, s := range (terms{atom(40), atom(41), hash(atom(70)), text("s")}) {
			said, _ := impl.Reply(s, impl.Pub(e), atom(10), someCert(atom(10)))
			for _, other := range shortTerms() {
				if got, want := !readsNone(other, said), order(e, other) == 0; got != want {
					t.Error(shown(e), shown(s), "read with", shown(other))
				}
			}
			// What s knows is the share, not the secret that it answers.
			if !readsNone(s, said) || !readsNone(impl.Pub(e), said) || !readsNone(impl.Pub(s), said) || !readsNone(shareOf(e, s), said) {
				t.Error("read without the secret:", shown(e), shown(s))
			}
		}
	}
}

func TestReplyOfOtherNumbersAndWords(t *testing.T) {
	e, s := atom(20), atom(40)
	own, both, body := pub(s), share(e, s), pair(atom(1), atom(2))
	zero, reply := text("0"), text("reply")
	if readsNone(e, replyWith(own, both, body)) {
		t.Fatal("the right one is not read")
	}
	for _, digits := range numbers() {
		right := digits == "0"
		if readsNone(e, sealedReply(reply, own, both, text(digits), zero, body)) == right {
			t.Error("KeyOf", digits)
		}
		if readsNone(e, sealedReply(reply, own, both, zero, text(digits), body)) == right {
			t.Error("Seal", digits)
		}
	}
	for _, s := range append(otherWords(), "hello", "done", "00", "-0", "+0") {
		if !readsNone(e, sealedReply(text(s), own, both, zero, zero, body)) {
			t.Errorf("read with %q in the place of its word", s)
		}
		if s != "0" && (!readsNone(e, sealedReply(reply, own, both, text(s), zero, body)) || !readsNone(e, sealedReply(reply, own, both, zero, text(s), body))) {
			t.Errorf("read with %q in the place of a number", s)
		}
	}
	for _, x := range (terms{atom(0), pub(zero), hash(zero), pair(zero, zero), sign(zero, zero), {Op: impl.TmText, N: 1, S: "0"}, {Op: impl.TmAtom, S: "0"}, {}}) {
		if !readsNone(e, sealedReply(reply, own, both, x, zero, body)) || !readsNone(e, sealedReply(reply, own, both, zero, x, body)) {
			t.Error("read with no text in the place of a number:", shown(x))
		}
	}
	for _, x := range (terms{atom(1), pub(reply), hash(reply), pair(reply, reply), {Op: impl.TmText, N: 1, S: "reply"}, {Op: impl.TmAtom, S: "reply"}, {S: "reply"}}) {
		if !readsNone(e, sealedReply(x, own, both, zero, zero, body)) {
			t.Error("read with no text in the place of its word:", shown(x))
		}
	}
}

func TestReplyOfAPubThatIsNone(t *testing.T) {
	e, s := atom(20), atom(40)
	both, body := share(e, s), pair(atom(1), atom(2))
	for _, own := range append(goodTerms(), append(badPubs(), term(impl.TmHash, s), s, hash(pub(s)), sign(s, s), impl.Term{Op: 9, Kids: terms{s}})...) {
		if !readsNone(e, replyWith(own, both, body)) {
			t.Error("read:", own.Op)
		}
	}
	// A Pub that is one, while the seal is of another share.
	for _, other := range shortTerms() {
		x := replyWith(pub(other), both, body)
		if got, want := !readsNone(e, x), order(other, s) == 0; got != want {
			t.Error("read with the Pub of", shown(other))
		}
		if !readsTo(e, replyWith(pub(other), shareOf(e, other), body), pub(other), shareOf(e, other), atom(1), atom(2)) {
			t.Error("not read with the Pub of", shown(other))
		}
	}
}

func TestReplyOfOtherShapes(t *testing.T) {
	e, s := atom(20), atom(40)
	reply, own, both, zero := text("reply"), pub(s), share(e, s), text("0")
	body := pair(atom(1), atom(2))
	k := hash(pair(both, zero))
	sealed := seal(k, pair(zero, body))
	right := pair(reply, pair(own, sealed))
	if !readsTo(e, right, own, both, atom(1), atom(2)) {
		t.Fatal("the right one is not read")
	}
	list := terms{
		e, s, reply, own, sealed, body, pair(own, sealed), pair(reply, own), pair(reply, sealed), pair(reply, reply), pair(pair(own, sealed), reply),
		pair(pair(reply, own), sealed), pair(reply, pair(sealed, own)), pair(own, pair(reply, sealed)), pair(reply, pair(own, pair(own, sealed))), pair(reply, right), pair(right, right),
		pair(reply, seal(own, sealed)), pair(reply, sign(own, sealed)), pair(reply, share(own, sealed)), pair(reply, hash(sealed)),
		share(reply, pair(own, sealed)), seal(reply, pair(own, sealed)), sign(reply, pair(own, sealed)), hash(right), pub(right), sign(e, right),
		pair(reply, pair(own, body)), pair(reply, pair(own, pair(k, pair(zero, body)))), pair(reply, pair(own, sign(k, pair(zero, body)))), pair(reply, pair(own, hash(sealed))),
		pair(reply, pair(own, seal(both, pair(zero, body)))), pair(reply, pair(own, seal(e, pair(zero, body)))), pair(reply, pair(own, seal(hash(both), pair(zero, body)))),
		pair(reply, pair(own, seal(hash(pair(zero, both)), pair(zero, body)))), pair(reply, pair(own, seal(pair(both, zero), pair(zero, body)))),
		pair(reply, pair(own, seal(k, body))), pair(reply, pair(own, seal(k, pair(body, zero)))), pair(reply, pair(own, seal(k, sealed))), pair(reply, pair(own, seal(k, zero))),
		pair(reply, pair(own, seal(pair(zero, body), k))), impl.Hello(e), impl.Done(both),
	}
	for _, none := range (terms{atom(1), text("x"), pub(body), hash(body), share(atom(1), atom(2)), seal(atom(1), atom(2)), sign(atom(1), atom(2))}) {
		list = append(list, replyWith(own, both, none))
	}
	for _, x := range list {
		if !impl.TermOk(x) {
			t.Fatal("is not ok itself:", shown(x))
		}
		if !readsNone(e, x) {
			t.Error("read:", shown(x))
		}
	}
}

func TestReplyOfWhatIsNotOk(t *testing.T) {
	e, s := atom(20), atom(40)
	reply, own, both, zero := text("reply"), pub(s), share(e, s), text("0")
	sealed := seal(hash(pair(both, zero)), pair(zero, pair(atom(1), atom(2))))
	inner := pair(own, sealed)
	list := append(badTerms(), ring(), pair(reply, ring()), pair(reply, pair(own, ring())), pair(reply, pair(pub(ring()), sealed)), pair(ring(), inner))
	for _, kids := range []terms{{reply, inner}, {own, sealed}} {
		wrong := terms{
			term(impl.TmPair), term(impl.TmPair, kids[0]), term(impl.TmPair, kids[0], kids[1], kids[1]), {Kids: kids}, {Op: 9, Kids: kids}, {Op: -3, Kids: kids},
			{Op: impl.TmPair, N: 1, Kids: kids}, {Op: impl.TmPair, N: -1, Kids: kids}, {Op: impl.TmPair, S: "s", Kids: kids}, {Op: impl.TmHash, Kids: kids},
		}
		list = append(list, wrong...)
		for _, x := range wrong {
			list = append(list, pair(reply, x))
		}
	}
	for _, bad := range append(badTerms(), ring()) {
		list = append(list, replyWith(own, both, bad), replyWith(own, both, pair(bad, atom(2))), replyWith(own, both, pair(atom(1), bad)), replyWith(own, bad, pair(atom(1), atom(2))))
		list = append(list, replyWith(own, share(e, bad), pair(atom(1), atom(2))), replyWith(pub(bad), share(e, bad), pair(atom(1), atom(2))))
	}
	for _, n := range []int{-1, 1} {
		list = append(list, replyWith(own, both, impl.Term{Op: impl.TmPair, N: n, Kids: terms{atom(1), atom(2)}}))
	}
	list = append(list, replyWith(own, both, term(impl.TmPair, atom(1), atom(2), atom(3))), replyWith(own, both, term(impl.TmPair, atom(1))), replyWith(own, share(s, e), pair(atom(1), atom(2))))
	for i, x := range list {
		if !readsNone(e, x) {
			t.Error("read:", i)
		}
	}
}

func TestReplyOfASecretThatIsNotOk(t *testing.T) {
	s, body := atom(40), pair(atom(1), atom(2))
	for i, bad := range append(badTerms(), ring(), pub(ring()), tree(200)) {
		said, _ := impl.Reply(s, pub(atom(20)), atom(10), text("c"))
		for _, x := range (terms{said, bad, {}, replyWith(pub(s), share(bad, s), body), replyWith(pub(s), share(s, bad), body), replyWith(pub(bad), share(bad, bad), body)}) {
			if !readsNone(bad, x) {
				t.Error("read:", i)
			}
		}
	}
}

func TestReplyWithoutAPub(t *testing.T) {
	s, key, cert := atom(40), atom(10), someCert(atom(10))
	e := atom(20)
	none := terms{
		e, text("pub"), pair(e, e), share(e, e), hash(e), hash(pub(e)), seal(e, e), sign(e, e), impl.Hello(e), sign(e, pub(e)),
		term(impl.TmPub), term(impl.TmPub, e, e), term(impl.TmPub, e, e, e), {Op: 9, Kids: terms{e}}, {Op: -4, Kids: terms{e}}, {Kids: terms{e}}, {Op: impl.TmPub, N: 20}, {}, ring(), pub(ring()),
		// Agree is true of these, but nothing that they are in is TermOk.
		{Op: impl.TmPub, N: 1, Kids: terms{e}}, {Op: impl.TmPub, N: -1, Kids: terms{e}}, {Op: impl.TmPub, S: "s", Kids: terms{e}},
	}
	for i, x := range append(none, badPubs()...) {
		if !repliesNone(s, x, key, cert) {
			t.Error("replied:", i, x.Op)
		}
	}
}

func TestReplyOfBadTerms(t *testing.T) {
	s, e, key, cert := atom(40), pub(atom(20)), atom(10), someCert(atom(10))
	if repliesNone(s, e, key, cert) {
		t.Fatal("no reply of the right ones")
	}
	for i, bad := range append(badTerms(), ring(), pub(ring()), tree(200)) {
		if !repliesNone(bad, e, key, cert) || !repliesNone(s, pub(bad), key, cert) || !repliesNone(s, e, bad, cert) || !repliesNone(s, e, key, bad) {
			t.Error("replied:", i)
		}
		if !repliesNone(bad, bad, bad, bad) || !repliesNone(bad, pub(bad), bad, bad) || !repliesNone(s, e, bad, bad) {
			t.Error("replied with more than one:", i)
		}
	}
}

func TestReplyAtTheLimit(t *testing.T) {
	one := atom(1)
	rest := impl.MaxTerm - impl.TermSize(rightReply(one, one, one, one))
	// A term of so many more than one is in the reply so many times.
	for name, at := range map[string]struct {
		times int
		sized func(size int) (s, other, key, cert impl.Term)
	}{
		"the secret":      {3, func(size int) (s, other, key, cert impl.Term) { return tree(size), one, one, one }},
		"the other":       {2, func(size int) (s, other, key, cert impl.Term) { return one, tree(size), one, one }},
		"the key":         {1, func(size int) (s, other, key, cert impl.Term) { return one, one, tree(size), one }},
		"the certificate": {1, func(size int) (s, other, key, cert impl.Term) { return one, one, one, tree(size) }},
		"all of them":     {7, func(size int) (s, other, key, cert impl.Term) { return tree(size), tree(size), tree(size), tree(size) }},
	} {
		most := rest/at.times + 1
		for size := 1; size <= impl.MaxTerm+5; size++ {
			s, other, key, cert := at.sized(size)
			want := rightReply(s, other, key, cert)
			got, done := impl.Reply(s, pub(other), key, cert)
			if done != (size <= most) || done != impl.TermOk(want) || !fitting(got, want) {
				t.Error(name, "of", size, shown(got), done)
			}
			if done && !readsTo(other, got, pub(s), shareOf(s, other), cert, sign(key, bothOf(pub(other), pub(s)))) || !done && !readsNone(other, want) {
				t.Error(name, "of", size, "is not read as it was")
			}
		}
	}
}

func TestReplyThatIsJustFull(t *testing.T) {
	one := atom(1)
	free := impl.MaxTerm - impl.TermSize(rightReply(one, one, one, one)) + 2
	for first := 1; first < free; first++ {
		key, cert := tree(first), tree(free-first)
		got, done := impl.Reply(one, pub(one), key, cert)
		if !done || impl.TermSize(got) != impl.MaxTerm || !readsTo(one, got, pub(one), share(one, one), cert, sign(key, bothOf(pub(one), pub(one)))) {
			t.Error("a key of", first, shown(got), done)
		}
		if !repliesNone(one, pub(one), key, tree(free-first+1)) || !repliesNone(one, pub(one), tree(first+1), cert) {
			t.Error("a key of", first, "too much by one")
		}
	}
}

// replyByWord is what the document says of ReplyOf, told apart from the program:
// it puts the reply together again, and looks whether it is x.
func replyByWord(e, x impl.Term) (terms, bool) {
	none := make(terms, 4)
	if !impl.TermOk(e) || !impl.TermOk(x) || x.Op != impl.TmPair || x.Kids[1].Op != impl.TmPair {
		return none, false
	}
	own, sealed := x.Kids[1].Kids[0], x.Kids[1].Kids[1]
	if own.Op != impl.TmPub || sealed.Op != impl.TmSeal || sealed.Kids[1].Op != impl.TmPair || sealed.Kids[1].Kids[1].Op != impl.TmPair {
		return none, false
	}
	both, proof := shareOf(e, own.Kids[0]), sealed.Kids[1].Kids[1]
	if order(replyWith(own, both, proof), x) != 0 {
		return none, false
	}
	return terms{own, both, proof.Kids[0], proof.Kids[1]}, true
}

func TestReplyOfByWord(t *testing.T) {
	d, read := dice(88), 0
	for range 30000 {
		e, s := d.term(1), d.term(1)
		own, both := field(&d, pub(s), pub(s), pub(s), pub(e), s), field(&d, shareOf(e, s), shareOf(e, s), shareOf(e, s), shareOf(s, s))
		zero := field(&d, text("0"), text("0"), text("0"), text("0"), text("1"))
		again := field(&d, text("0"), text("0"), text("0"), text("0"), text("1"))
		word := field(&d, text("reply"), text("reply"), text("reply"), text("reply"), text("hello"))
		body := field(&d, pair(d.term(2), d.term(2)), pair(d.term(2), d.term(2)), pair(d.term(2), d.term(2)), d.term(2))
		x := sealedReply(word, own, both, zero, again, body)
		want, done := replyByWord(e, x)
		got, ok := fourOf(e, x)
		if ok != done || !alike(got, want) {
			t.Fatal(shown(e), shown(x), listed(got), ok)
		}
		if done {
			read++
		}
	}
	if read < 1000 {
		t.Error("the terms ask for too little:", read)
	}
}

func TestReplyByWord(t *testing.T) {
	d, made := dice(89), 0
	for range 10000 {
		s, other, key, cert := d.term(d.below(9)), d.term(d.below(9)), d.term(d.below(9)), d.term(d.below(9))
		want := rightReply(s, other, key, cert)
		got, done := impl.Reply(s, pub(other), key, cert)
		if done != impl.TermOk(want) || !fitting(got, want) {
			t.Fatal(shown(s), shown(other), shown(key), shown(cert), done)
		}
		if done {
			made++
		}
		if other.Op != impl.TmPub && !repliesNone(s, other, key, cert) {
			t.Fatal("replied without a Pub:", shown(other))
		}
	}
	if made < 1000 || made == 10000 {
		t.Error("the terms ask for too little:", made)
	}
}
