package tests

import (
	"math"
	"testing"

	"loop.example/g00328/impl"
)

// question is all that Proved is asked with.
type question struct {
	e, pub, cert, sign impl.Term
	host               string
	now                int
}

func (q question) proved() bool { return impl.Proved(q.e, q.pub, q.cert, q.sign, q.host, q.now) }

// signedBoth is what a host that has that key signs for the secrets e and s.
func signedBoth(key, e, s impl.Term) impl.Term { return sign(key, bothOf(pub(e), pub(s))) }

// rightQuestion is proved: mx.a has the key 10, up to 50.
func rightQuestion() question {
	e, s, key := atom(20), atom(40), atom(10)
	return question{e: e, pub: pub(s), cert: someCert(key), sign: signedBoth(key, e, s), host: "mx.a", now: 50}
}

// differing is the right question with one thing turned.
func differing(turn func(q *question)) question {
	q := rightQuestion()
	turn(&q)
	return q
}

// provedByWord is what the document says of Proved, of a certificate with a
// Until of less than three digits.
func provedByWord(q question) bool {
	c, good := certByWord(q.cert)
	if !good || c.Host != q.host || c.Until < q.now {
		return false
	}
	want := sign(c.Pub.Kids[0], bothOf(pub(q.e), q.pub))
	return impl.TermOk(want) && order(q.sign, want) == 0
}

func TestProvedAsItIsReplied(t *testing.T) {
	for _, e := range shortTerms() {
		for _, key := range shortTerms() {
			s, cert := atom(40), someCert(key)
			said, done := impl.Reply(s, impl.Pub(e), key, cert)
			own, _, got, signed, read := impl.ReplyOf(e, said)
			if !done || !read || !impl.Proved(e, own, got, signed, "mx.a", 50) {
				t.Error(shown(e), shown(key), done, read)
			}
			if impl.Proved(e, own, got, signed, "mx.b", 50) || impl.Proved(e, own, got, signed, "mx.a", 51) {
				t.Error("for another host, or behind its end:", shown(e), shown(key))
			}
		}
	}
}

func TestProvedUpToItsEnd(t *testing.T) {
	for _, now := range []int{0, -1, 1, 49, 50, 51, 52, 100, impl.MaxTime, math.MinInt, math.MinInt + 1, math.MaxInt, math.MaxInt - 1, 1 << 32, -1 << 32} {
		q := differing(func(q *question) { q.now = now })
		if q.proved() != (now <= 50) {
			t.Error(now)
		}
	}
	for until, digits := range goodUntils() {
		cert := certTerm(atom(1), text("mx.a"), pub(atom(10)), text(digits))
		for _, now := range []int{until - 1, until, until + 1} {
			q := differing(func(q *question) { q.cert, q.now = cert, now })
			if q.proved() != (now <= until) {
				t.Error("until", until, "now", now)
			}
		}
	}
}

func TestProvedForItsHostAlone(t *testing.T) {
	asked := append(append(goodHosts(), badHosts()...), "mx.a", "mx.b", "m2.a", "", "*.a", "mx.a.", "MX.A", "<mx.a>", "?")
	for _, host := range append(goodHosts(), "mx.a") {
		cert := certTerm(atom(1), text(host), pub(atom(10)), text("50"))
		for _, other := range asked {
			q := differing(func(q *question) { q.cert, q.host = cert, other })
			if q.proved() != (other == host) {
				t.Errorf("of %q asked for %q", host, other)
			}
		}
	}
	for _, bad := range badHosts() {
		q := differing(func(q *question) { q.cert, q.host = certTerm(atom(1), text(bad), pub(atom(10)), text("50")), bad })
		if q.proved() {
			t.Errorf("of %q, which is no host", bad)
		}
	}
}

func TestProvedWithOneThingWrong(t *testing.T) {
	if !rightQuestion().proved() {
		t.Fatal("the right one is not proved")
	}
	e, s, key, ca := atom(20), atom(40), atom(10), atom(1)
	mine, theirs, host, until := pub(e), pub(s), text("mx.a"), text("50")
	for name, turn := range map[string]func(q *question){
		"signed by no CA":            func(q *question) { q.cert = certTerm(atom(2), host, pub(key), until) },
		"signed by itself":           func(q *question) { q.cert = certTerm(key, host, pub(key), until) },
		"signed by the Pub of CA":    func(q *question) { q.cert = certTerm(pub(ca), host, pub(key), until) },
		"a certificate of another":   func(q *question) { q.cert = someCert(atom(11)) },
		"no certificate":             func(q *question) { q.cert = impl.Term{} },
		"what the CA has not signed": func(q *question) { q.cert = q.cert.Kids[1] },
		"a sealed certificate":       func(q *question) { q.cert = seal(ca, q.cert.Kids[1]) },
		"until with a nought":        func(q *question) { q.cert = certTerm(ca, host, pub(key), text("050")) },
		"a key in the place of Pub":  func(q *question) { q.cert = certTerm(ca, host, key, until) },
		"certificate and sign":       func(q *question) { q.cert, q.sign = q.sign, q.cert },
		"the sign twice":             func(q *question) { q.cert = q.sign },
		"the certificate twice":      func(q *question) { q.sign = q.cert },
		"another secret":             func(q *question) { q.e = atom(21) },
		"the other's secret":         func(q *question) { q.e = s },
		"the Pub of the secret":      func(q *question) { q.e = mine },
		"the hash of the secret":     func(q *question) { q.e = hash(e) },
		"no secret":                  func(q *question) { q.e = impl.Term{} },
		"another Pub":                func(q *question) { q.pub = pub(atom(41)) },
		"its own Pub":                func(q *question) { q.pub = mine },
		"the secret of the Pub":      func(q *question) { q.pub = s },
		"the Pub of the Pub":         func(q *question) { q.pub = pub(theirs) },
		"no Pub":                     func(q *question) { q.pub = impl.Term{} },
		"a Pub that is not ok":       func(q *question) { q.pub = impl.Term{Op: impl.TmPub, N: 1, Kids: terms{s}} },
		"turned round":               func(q *question) { q.e, q.pub = s, mine },
		"signed turned round":        func(q *question) { q.sign = signedBoth(key, s, e) },
		"signed by another":          func(q *question) { q.sign = signedBoth(atom(11), e, s) },
		"signed by the CA":           func(q *question) { q.sign = signedBoth(ca, e, s) },
		"signed by the Pub":          func(q *question) { q.sign = signedBoth(pub(key), e, s) },
		"signed by the secret":       func(q *question) { q.sign = signedBoth(e, e, s) },
		"signed for another":         func(q *question) { q.sign = signedBoth(key, atom(21), s) },
		"signed for another Pub":     func(q *question) { q.sign = signedBoth(key, e, atom(41)) },
		"signed of the pair":         func(q *question) { q.sign = sign(key, pair(mine, theirs)) },
		"signed of a hash of it":     func(q *question) { q.sign = sign(key, hash(bothOf(mine, theirs))) },
		"signed of the secrets":      func(q *question) { q.sign = sign(key, bothOf(e, s)) },
		"signed of the first alone":  func(q *question) { q.sign = sign(key, hash(mine)) },
		"signed of the share":        func(q *question) { q.sign = sign(key, share(e, s)) },
		"signed twice":               func(q *question) { q.sign = sign(key, q.sign) },
		"signed the wrong way":       func(q *question) { q.sign = sign(bothOf(mine, theirs), key) },
		"not signed":                 func(q *question) { q.sign = bothOf(mine, theirs) },
		"sealed":                     func(q *question) { q.sign = seal(key, bothOf(mine, theirs)) },
		"a pair":                     func(q *question) { q.sign = pair(key, bothOf(mine, theirs)) },
		"nothing signed":             func(q *question) { q.sign = impl.Term{} },
		"signed of nothing":          func(q *question) { q.sign = sign(key, impl.Term{}) },
		"a sign with a third":        func(q *question) { q.sign = term(impl.TmSign, key, bothOf(mine, theirs), key) },
		"a sign with a number":       func(q *question) { q.sign.N = 1 },
		"a sign with a text":         func(q *question) { q.sign.S = "s" },
	} {
		if differing(turn).proved() {
			t.Error(name)
		}
	}
}

func TestProvedOfAnythingElse(t *testing.T) {
	list := append(goodTerms(), append(badTerms(), ring(), pub(ring()), tree(200))...)
	for i, x := range list {
		for name, turn := range map[string]func(q *question){
			"secret":      func(q *question) { q.e = x },
			"pub":         func(q *question) { q.pub = x },
			"certificate": func(q *question) { q.cert = x },
			"sign":        func(q *question) { q.sign = x },
			"all":         func(q *question) { q.e, q.pub, q.cert, q.sign = x, x, x, x },
		} {
			if differing(turn).proved() {
				t.Error(name, i)
			}
		}
	}
}

// What is not TermOk makes a zero term, and so does nothing at all: the two are
// not held against each other.
func TestProvedOfWhatCanNotBeMade(t *testing.T) {
	key := atom(10)
	for i, bad := range append(badTerms(), ring(), tree(200), tree(199), tree(196)) {
		for _, signed := range (terms{sign(key, impl.Term{}), impl.Term{}, sign(key, bothOf(pub(bad), pub(atom(40)))), sign(key, bothOf(pub(atom(20)), bad)), sign(key, hash(impl.Term{}))}) {
			if differing(func(q *question) { q.e, q.sign = bad, signed }).proved() || differing(func(q *question) { q.pub, q.sign = bad, signed }).proved() {
				t.Error(i, signed.Op)
			}
		}
	}
}

// The document asks nothing of pub but that it is what was signed.
func TestProvedOfAnyPub(t *testing.T) {
	key, e := atom(10), atom(20)
	for _, x := range shortTerms() {
		signed := sign(key, bothOf(pub(e), x))
		for _, other := range shortTerms() {
			q := differing(func(q *question) { q.pub, q.sign = other, signed })
			if q.proved() != (order(x, other) == 0) {
				t.Error(shown(x), shown(other))
			}
		}
	}
}

func TestProvedAtTheLimit(t *testing.T) {
	for size := 180; size <= impl.MaxTerm+2; size++ {
		secret, key := tree(size), atom(10)
		q := differing(func(q *question) { q.e, q.sign = secret, signedBoth(key, secret, atom(40)) })
		if q.proved() != (size+7 <= impl.MaxTerm) {
			t.Error("a secret of", size)
		}
		q = differing(func(q *question) { q.pub, q.sign = pub(secret), signedBoth(key, atom(20), secret) })
		if q.proved() != (size+7 <= impl.MaxTerm) {
			t.Error("a Pub of the secret of", size)
		}
		q = differing(func(q *question) { q.cert, q.sign = someCert(secret), signedBoth(secret, atom(20), atom(40)) })
		if q.proved() != (size+7 <= impl.MaxTerm) {
			t.Error("a key of", size)
		}
	}
}

func TestProvedByWord(t *testing.T) {
	d, proved := dice(90), 0
	for range 30000 {
		e, s, key := d.term(1), d.term(1), d.term(1)
		q := question{
			e:    field(&d, e, e, e, e, s),
			pub:  field(&d, pub(s), pub(s), pub(s), pub(s), pub(e)),
			cert: certTerm(field(&d, atom(1), atom(1), atom(1), atom(2)), field(&d, text("mx.a"), text("mx.a"), text("mx.b")), field(&d, pub(key), pub(key), pub(e)), field(&d, text("50"), text("50"), text("60"), text("050"))),
			sign: field(&d, signedBoth(key, e, s), signedBoth(key, e, s), signedBoth(key, e, s), signedBoth(key, s, e), signedBoth(s, e, s)),
			host: oneOf(&d, "mx.a", "mx.a", "mx.b", "mx"),
			now:  oneOf(&d, 0, 49, 50, 51),
		}
		want := provedByWord(q)
		if q.proved() != want {
			t.Fatalf("%+v", q)
		}
		if want {
			proved++
		}
	}
	if proved < 500 {
		t.Error("the questions ask for too little:", proved)
	}
}

// The outsider calls mx.a itself, and hands on what it got there to somebody who
// wants mx.a.
func TestWhatWasSignedForAnotherProvesNothing(t *testing.T) {
	key, evil, e, s := atom(10), atom(501), atom(1000), atom(1001)
	cert := someCert(key)
	real, _ := impl.Reply(s, impl.Pub(evil), key, cert)
	own, _, gotCert, gotSign, read := impl.ReplyOf(evil, real)
	if !read || !impl.Proved(evil, own, gotCert, gotSign, "mx.a", 50) {
		t.Fatal("the outsider can't call")
	}
	both, _ := impl.Agree(evil, impl.Pub(e))
	handed := impl.Pair(text("reply"), impl.Pair(impl.Pub(evil), impl.Seal(impl.KeyOf(both, 0), 0, impl.Pair(gotCert, gotSign))))
	if !impl.Can(terms{evil, impl.Hello(e), real}, handed) {
		t.Fatal("the outsider can't hand it on")
	}
	own, _, gotCert, gotSign, read = impl.ReplyOf(e, handed)
	if !read || impl.Proved(e, own, gotCert, gotSign, "mx.a", 50) {
		t.Error("proved by what was signed for another:", read)
	}
}

func TestWhoOnlyHearsComesToNoShare(t *testing.T) {
	key, e, s := atom(10), atom(1000), atom(1001)
	cert := someCert(key)
	said, _ := impl.Reply(s, impl.Pub(e), key, cert)
	both, _ := impl.Agree(e, impl.Pub(s))
	// Who has the key of the host later has none of this, too.
	heard := terms{impl.Pub(atom(1)), atom(500), atom(501), cert, impl.Hello(e), said, impl.Done(both), key}
	for _, x := range (terms{both, e, s, impl.KeyOf(both, 0), impl.KeyOf(both, 1), impl.KeyOf(both, 2)}) {
		if impl.Can(heard, x) {
			t.Error("known:", shown(x))
		}
	}
	for _, secret := range (terms{e, s}) {
		if !impl.Can(append(heard[:len(heard):len(heard)], secret), both) {
			t.Error("unknown with", shown(secret))
		}
	}
}
