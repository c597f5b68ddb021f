package tests

import (
	"strings"
	"testing"

	"loop.example/g00328/impl"
)

// What chapter 8 makes is written out here, right or not.

func bothOf(a, b impl.Term) impl.Term { return hash(pair(a, b)) }

func helloOf(e impl.Term) impl.Term { return pair(text("hello"), pub(e)) }

func doneOf(share impl.Term) impl.Term {
	return seal(hash(pair(share, text("1"))), pair(text("0"), text("done")))
}

// helloIs tells whether HelloOf answers so: want and true, or zero and false.
func helloIs(x, want impl.Term, done bool) bool {
	got, ok := impl.HelloOf(x)
	return answered(got, ok, want, done)
}

// shortTerms are TermOk, of every Op, with room for more of them in one term.
func shortTerms() terms {
	var list terms
	for _, x := range goodTerms() {
		if impl.TermSize(x) < 15 {
			list = append(list, x)
		}
	}
	return list
}

// otherWords are texts that are none of those of the greeting.
func otherWords() []string {
	return []string{
		"", "hell", "ello", "Hello", "HELLO", "hellO", "hello ", " hello", "hello\n", "hello\x00", "hhello", "helloo", "hullo", "hello hello", "h",
		"repl", "eply", "Reply", "REPLY", "replY", "reply ", " reply", "reply\n", "reply\x00", "rreply", "replyy", "rep1y",
		"don", "one", "Done", "DONE", "done ", "done\n", "0", "1", "220", "body", strings.Repeat("hello", 60), strings.Repeat("x", 301),
	}
}

func TestBothText(t *testing.T) {
	a, b := atom(20), atom(40)
	for want, got := range map[string]impl.Term{
		"hash(pair(20,40))":                          impl.Both(a, b),
		"hash(pair(40,20))":                          impl.Both(b, a),
		"hash(pair(20,20))":                          impl.Both(a, a),
		"hash(pair(pub(20),pub(40)))":                impl.Both(pub(a), pub(b)),
		"hash(pair(pub(20),<x>))":                    impl.Both(pub(a), text("x")),
		"hash(pair(hash(pair(20,40)),share(20,40)))": impl.Both(hash(pair(a, b)), share(a, b)),
	} {
		if impl.TermText(got) != want || !impl.TermOk(got) {
			t.Error(shown(got), want)
		}
	}
}

func TestBothInTheOtherOrder(t *testing.T) {
	made := 0
	for _, a := range goodTerms() {
		for _, b := range goodTerms() {
			one, two := impl.Both(a, b), impl.Both(b, a)
			if !fitting(one, bothOf(a, b)) || !fitting(two, bothOf(b, a)) {
				t.Error(shown(a), shown(b), shown(one), shown(two))
			}
			if !isZero(one) && (order(one, two) == 0) != (order(a, b) == 0) {
				t.Error("the order is nothing to it:", shown(a), shown(b))
			}
			if !isZero(one) {
				made++
			}
		}
	}
	if made < 1000 {
		t.Error("the terms ask for too little:", made)
	}
}

func TestBothOfWhatIsNotOk(t *testing.T) {
	for i, bad := range append(badTerms(), ring(), pub(ring())) {
		for _, x := range (terms{atom(3), pub(atom(3)), bad}) {
			if got := impl.Both(bad, x); !isZero(got) {
				t.Error(i, shown(got))
			}
			if got := impl.Both(x, bad); !isZero(got) {
				t.Error(i, "behind", shown(got))
			}
		}
	}
}

func TestBothAtTheLimit(t *testing.T) {
	for first := 1; first <= impl.MaxTerm-3; first++ {
		last := impl.MaxTerm - 2 - first
		if got := impl.Both(tree(first), tree(last)); impl.TermSize(got) != impl.MaxTerm || order(got, bothOf(tree(first), tree(last))) != 0 {
			t.Error(first, shown(got))
		}
		if got := impl.Both(tree(first), tree(last+1)); !isZero(got) {
			t.Error(first, "too much by one", shown(got))
		}
		if got := impl.Both(tree(last+2), tree(first)); !isZero(got) {
			t.Error(first, "too much by two", shown(got))
		}
	}
}

func TestHelloText(t *testing.T) {
	for want, e := range map[string]impl.Term{
		"pair(<hello>,pub(20))":          atom(20),
		"pair(<hello>,pub(0))":           atom(0),
		"pair(<hello>,pub(pub(20)))":     pub(atom(20)),
		"pair(<hello>,pub(<hello>))":     text("hello"),
		"pair(<hello>,pub(pair(20,21)))": pair(atom(20), atom(21)),
	} {
		if got := impl.Hello(e); impl.TermText(got) != want || !impl.TermOk(got) {
			t.Error(shown(got), want)
		}
	}
}

func TestHelloIsReadAsItWas(t *testing.T) {
	read := 0
	for _, e := range goodTerms() {
		said := impl.Hello(e)
		if !fitting(said, helloOf(e)) {
			t.Error(shown(e), shown(said))
		}
		if !helloIs(said, pub(e), impl.TermOk(helloOf(e))) || !helloIs(helloOf(e), pub(e), impl.TermOk(helloOf(e))) {
			t.Error("not read as it was:", shown(e))
		}
		if !isZero(said) {
			read++
		}
	}
	if read < 40 {
		t.Error("the secrets ask for too little:", read)
	}
}

func TestHelloOfWhatIsNotOk(t *testing.T) {
	for i, bad := range append(badTerms(), ring(), pub(ring()), tree(200)) {
		if got := impl.Hello(bad); !isZero(got) {
			t.Error("said:", i, shown(got))
		}
		for _, x := range (terms{bad, helloOf(bad), pair(text("hello"), bad), pair(bad, pub(atom(20))), pair(bad, bad)}) {
			if !helloIs(x, impl.Term{}, false) {
				t.Error("read:", i, x.Op)
			}
		}
	}
}

func TestHelloAtTheLimit(t *testing.T) {
	for size := impl.MaxTerm - 10; size <= impl.MaxTerm+5; size++ {
		e, fits := tree(size), size+3 <= impl.MaxTerm
		if got := impl.Hello(e); fits && order(got, helloOf(e)) != 0 || !fits && !isZero(got) {
			t.Error("a secret of", size, shown(got))
		}
		if !helloIs(helloOf(e), pub(e), fits) {
			t.Error("read with a secret of", size)
		}
	}
}

func TestHelloOfOtherWords(t *testing.T) {
	for _, s := range otherWords() {
		if !helloIs(pair(text(s), pub(atom(20))), impl.Term{}, false) {
			t.Errorf("read: %q", s)
		}
	}
	for _, s := range []string{"reply", "done"} {
		if !helloIs(pair(text(s), pub(atom(20))), impl.Term{}, false) {
			t.Errorf("read: %q", s)
		}
	}
}

func TestHelloOfOtherShapes(t *testing.T) {
	hello, key := text("hello"), pub(atom(20))
	right := pair(hello, key)
	if !helloIs(right, key, true) {
		t.Fatal("the right one is not read")
	}
	list := terms{
		hello, key, atom(20), pair(key, hello), pair(hello, hello), pair(key, key), pair(right, right), pair(hello, right), pair(right, key), pair(hello, pair(key, key)),
		pair(hello, atom(20)), pair(hello, hash(atom(20))), pair(hello, hash(key)), pair(hello, share(atom(20), atom(20))), pair(hello, text("pub")),
		pair(hello, seal(atom(20), key)), pair(hello, sign(atom(20), key)), pair(hello, pair(atom(20), atom(20))),
		pair(pub(hello), key), pair(hash(hello), key), pair(pair(hello, hello), key), pair(atom(5), key),
		share(hello, key), seal(hello, key), sign(hello, key), hash(right), pub(right), sign(atom(1), right), seal(atom(1), pair(text("0"), right)),
	}
	for _, x := range list {
		if !impl.TermOk(x) {
			t.Fatal("is not ok itself:", shown(x))
		}
		if !helloIs(x, impl.Term{}, false) {
			t.Error("read:", shown(x))
		}
	}
	wrong := append(withWrongParts(impl.TmPair, 2),
		term(impl.TmPair, hello), term(impl.TmPair, hello, key, key), term(impl.TmPair, key), term(impl.TmPair), impl.Term{},
		impl.Term{Op: impl.TmPair, N: 1, Kids: terms{hello, key}}, impl.Term{Op: impl.TmPair, S: "hello", Kids: terms{hello, key}},
		impl.Term{Kids: terms{hello, key}}, impl.Term{Op: 9, Kids: terms{hello, key}}, impl.Term{Op: -3, Kids: terms{hello, key}},
		pair(impl.Term{Op: impl.TmText, N: 1, S: "hello"}, key), pair(impl.Term{Op: impl.TmText, S: "hello", Kids: terms{key}}, key),
		pair(impl.Term{Op: impl.TmAtom, S: "hello"}, key), pair(impl.Term{S: "hello"}, key),
	)
	for _, bad := range withWrongParts(impl.TmPub, 1) {
		wrong = append(wrong, pair(hello, bad))
	}
	for i, x := range wrong {
		if !helloIs(x, impl.Term{}, false) {
			t.Error("read:", i)
		}
	}
}

func TestDoneText(t *testing.T) {
	for want, x := range map[string]impl.Term{
		"seal(hash(pair(share(20,40),<1>)),pair(<0>,<done>))":     share(atom(20), atom(40)),
		"seal(hash(pair(share(20,41),<1>)),pair(<0>,<done>))":     share(atom(20), atom(41)),
		"seal(hash(pair(20,<1>)),pair(<0>,<done>))":               atom(20),
		"seal(hash(pair(pub(20),<1>)),pair(<0>,<done>))":          pub(atom(20)),
		"seal(hash(pair(pair(<1>,<0>),<1>)),pair(<0>,<done>))":    pair(text("1"), text("0")),
		"seal(hash(pair(share(<>,<done>),<1>)),pair(<0>,<done>))": share(text(""), text("done")),
	} {
		if got := impl.Done(x); impl.TermText(got) != want || !impl.TermOk(got) {
			t.Error(shown(got), want)
		}
	}
}

func TestDoneIsAnotherOneForEachShare(t *testing.T) {
	for _, x := range shortTerms() {
		for _, y := range shortTerms() {
			if got := order(impl.Done(x), impl.Done(y)) == 0; got != (order(x, y) == 0) {
				t.Error(shown(x), shown(y))
			}
		}
	}
}

func TestDoneIsOpenedByItsKeyAndNumberAlone(t *testing.T) {
	done := text("done")
	for _, x := range shortTerms() {
		said := impl.Done(x)
		if !opensTo(impl.KeyOf(x, 1), 0, said, done, true) {
			t.Error("not opened:", shown(x))
		}
		for n := range numbers() {
			if !opensTo(impl.KeyOf(x, n), 0, said, done, n == 1) || !opensTo(impl.KeyOf(x, 1), n, said, done, n == 0) || !opensTo(impl.KeyOf(x, n), n, said, done, false) {
				t.Error("opened by", n, shown(x))
			}
		}
		if !opensTo(x, 0, said, done, false) || !opensTo(hash(x), 0, said, done, false) || !opensTo(impl.KeyOf(hash(x), 1), 0, said, done, false) {
			t.Error("opened by another key:", shown(x))
		}
	}
}

func TestDoneOfWhatIsNotOk(t *testing.T) {
	for i, bad := range append(badTerms(), ring(), pub(ring())) {
		if got := impl.Done(bad); !isZero(got) {
			t.Error(i, shown(got))
		}
	}
	for size := impl.MaxTerm - 15; size <= impl.MaxTerm+5; size++ {
		x := tree(size)
		if got := impl.Done(x); !fitting(got, doneOf(x)) || isZero(got) != (size+7 > impl.MaxTerm) {
			t.Error("a share of", size, shown(got))
		}
	}
}
