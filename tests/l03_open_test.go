package tests

import (
	"math"
	"testing"

	"loop.example/g00328/impl"
)

// opensTo tells whether Open answers so: body and true, or zero and false.
func opensTo(key impl.Term, n int, t impl.Term, body impl.Term, want bool) bool {
	got, done := impl.Open(key, n, t)
	return answered(got, done, body, want)
}

// signedTo is for Signed what opensTo is for Open.
func signedTo(pub, t, body impl.Term, want bool) bool {
	got, done := impl.Signed(pub, t)
	return answered(got, done, body, want)
}

func answered(got impl.Term, done bool, body impl.Term, want bool) bool {
	if !want {
		return !done && isZero(got)
	}
	return done && order(got, body) == 0
}

func TestKeyOfIsAnotherOneForEachNumber(t *testing.T) {
	share := share(atom(20), atom(40))
	for n := range numbers() {
		for m := range numbers() {
			if got := order(impl.KeyOf(share, n), impl.KeyOf(share, m)) == 0; got != (n == m) {
				t.Error(n, m, got)
			}
		}
	}
}

func TestKeyOfAnythingAtAll(t *testing.T) {
	for _, x := range (terms{atom(3), text("x"), pub(atom(3)), hash(atom(3)), share(atom(3), atom(3))}) {
		if got := impl.KeyOf(x, 7); order(got, hash(pair(x, text("7")))) != 0 {
			t.Error(shown(x), shown(got))
		}
	}
}

func TestOpenByItsKeyAlone(t *testing.T) {
	body, opened := pair(atom(7), hash(text("x"))), 0
	for _, key := range goodTerms() {
		sealed := impl.Seal(key, 3, body)
		for _, other := range goodTerms() {
			want := order(key, other) == 0 && impl.TermOk(sealed)
			if !opensTo(other, 3, sealed, body, want) {
				t.Error(shown(sealed), "by", shown(other))
			}
			if want {
				opened++
			}
		}
	}
	if opened < 40 {
		t.Error("the keys ask for too little:", opened)
	}
}

func TestOpenByItsNumberAlone(t *testing.T) {
	key, body := hash(atom(5)), pub(atom(6))
	for n, digits := range numbers() {
		sealed := seal(key, pair(text(digits), body))
		for m := range numbers() {
			if !opensTo(key, m, impl.Seal(key, n, body), body, m == n) || !opensTo(key, m, sealed, body, m == n) {
				t.Error("sealed by", n, "opened by", m)
			}
		}
	}
}

func TestOpenOfTextsThatAreNoNumber(t *testing.T) {
	key, body := atom(5), atom(6)
	for _, s := range []string{
		"", "-", "+", "00", "-0", "+0", "01", "+1", "-01", "--1", "-+1", "001", "1-", " 1", "1 ", "1\n", "1\x00", "\x001",
		"1.0", "1.", ".1", "1e0", "0x1", "0b1", "0o1", "1_0", "1,2", "one", "\u0661", "\uff11", "\u22121", "(1)", "<1>",
		"9223372036854775808", "-9223372036854775809", "18446744073709551617", "18446744073709551615", "4294967297",
	} {
		for n := range numbers() {
			if !opensTo(key, n, seal(key, pair(text(s), body)), body, false) {
				t.Errorf("%q opened by %d", s, n)
			}
		}
	}
}

func TestEveryBodyComesBack(t *testing.T) {
	key, back := atom(5), 0
	for _, body := range goodTerms() {
		sealed, signed := impl.Seal(key, 0, body), impl.Sign(key, body)
		if !opensTo(key, 0, sealed, body, impl.TermOk(sealed)) {
			t.Error("sealed", shown(body))
		}
		if !signedTo(impl.Pub(key), signed, body, impl.TermOk(signed)) {
			t.Error("signed", shown(body))
		}
		if impl.TermOk(sealed) && impl.TermOk(signed) {
			back++
		}
	}
	if back < 40 {
		t.Error("the bodies ask for too little:", back)
	}
}

func TestOpenAtTheLimit(t *testing.T) {
	for _, size := range []int{1, 2, 98, 195, 196} {
		key, body := tree(size), tree(impl.MaxTerm-3-size)
		if !opensTo(key, 4, impl.Seal(key, 4, body), body, true) {
			t.Error("a key of", size)
		}
		for _, more := range []int{1, 2, 50, 200} {
			body := tree(impl.MaxTerm - 3 - size + more)
			if !opensTo(key, 4, seal(key, pair(text("4"), body)), body, false) {
				t.Error("a key of", size, "too much by", more)
			}
		}
	}
}

func TestOpenOneSealOfTwo(t *testing.T) {
	a, b, body := atom(1), atom(2), atom(3)
	inner := impl.Seal(a, 1, body)
	outer := impl.Seal(b, 2, inner)
	if !opensTo(b, 2, outer, inner, true) || !opensTo(a, 1, inner, body, true) {
		t.Error("not opened")
	}
	if !opensTo(a, 1, outer, body, false) || !opensTo(b, 1, outer, body, false) || !opensTo(a, 2, outer, body, false) {
		t.Error("opened by what belongs to the other one")
	}
	if both := impl.Seal(a, 1, inner); !opensTo(a, 1, both, inner, true) {
		t.Error("more than one seal was opened")
	}
}

func TestOpenOfWhatIsNoSeal(t *testing.T) {
	key, one, body := atom(5), text("1"), atom(6)
	right := pair(one, body)
	if !opensTo(key, 1, seal(key, right), body, true) {
		t.Fatal("the right one is not opened")
	}
	list := terms{
		key, one, right, body, pub(key), hash(key), hash(seal(key, right)), pub(seal(key, right)),
		pair(seal(key, right), seal(key, right)), sign(key, seal(key, right)), pair(key, right), share(key, right), sign(key, right),
	}
	for _, second := range (terms{
		body, one, pub(right), hash(right), hash(one), seal(one, body), sign(one, body), share(one, text("2")), pair(body, one),
		pair(atom(1), body), pair(hash(one), body), pub(one), pair(pub(one), body), pair(pair(one, one), body), pair(right, body),
		pair(sign(key, one), body), pair(seal(key, one), body), pair(share(one, one), body), seal(key, right),
	}) {
		list = append(list, seal(key, second))
	}
	for _, x := range list {
		if !impl.TermOk(x) {
			t.Fatal("is not ok itself:", shown(x))
		}
		if !opensTo(key, 1, x, body, false) {
			t.Error("opened:", shown(x))
		}
	}
	if !opensTo(right, 1, seal(right, key), key, false) || !opensTo(key, 1, seal(right, key), right, false) {
		t.Error("key and body are not told apart")
	}
}

func TestOpenOfWhatIsNotOk(t *testing.T) {
	key, one, body := atom(5), text("1"), atom(6)
	right := pair(one, body)
	list := terms{
		term(impl.TmSeal), term(impl.TmSeal, key), term(impl.TmSeal, key, right, body), term(impl.TmSeal, key, right, right),
		{Op: impl.TmSeal, N: 1, Kids: terms{key, right}}, {Op: impl.TmSeal, N: -1, Kids: terms{key, right}}, {Op: impl.TmSeal, S: "1", Kids: terms{key, right}},
		{Op: 0, Kids: terms{key, right}}, {Op: 9, Kids: terms{key, right}}, {Op: -7, Kids: terms{key, right}},
		{Op: impl.TmHash, Kids: terms{key, right}}, {Op: impl.TmPub, Kids: terms{key, right}}, {Op: impl.TmAtom, Kids: terms{key, right}},
	}
	for _, second := range append(badTerms(),
		term(impl.TmPair), term(impl.TmPair, one), term(impl.TmPair, one, body, body), ring(),
		impl.Term{Op: impl.TmPair, N: 1, Kids: terms{one, body}}, impl.Term{Op: impl.TmPair, S: "1", Kids: terms{one, body}},
		pair(impl.Term{Op: impl.TmText, S: "1", N: 1}, body), pair(impl.Term{Op: impl.TmText, S: "1", Kids: terms{body}}, body),
	) {
		list = append(list, seal(key, second), seal(key, pair(one, second)), seal(key, pair(second, body)), pair(key, second))
	}
	for i, x := range append(list, append(badTerms(), ring(), seal(ring(), right))...) {
		if !opensTo(key, 1, x, body, false) {
			t.Error("opened:", i)
		}
	}
}

func TestOpenByAKeyThatIsNotOk(t *testing.T) {
	body := atom(6)
	sealed := impl.Seal(atom(5), 1, body)
	for i, bad := range append(badTerms(), impl.Term{Op: impl.TmAtom, N: 5, S: "x"}, impl.Term{Op: impl.TmAtom, N: 5, Kids: terms{body}}, ring()) {
		if !opensTo(bad, 1, sealed, body, false) || !opensTo(bad, 1, seal(bad, pair(text("1"), body)), body, false) {
			t.Error("opened:", i)
		}
		for _, none := range append(badTerms(), impl.Seal(bad, 1, body), bad) {
			if !opensTo(bad, 0, none, body, false) || !opensTo(bad, 1, none, body, false) {
				t.Error("opened what was never sealed:", i, none.Op)
			}
		}
	}
}

func TestSignedByItsKeyAlone(t *testing.T) {
	body, read := pair(atom(7), hash(text("x"))), 0
	for _, key := range goodTerms() {
		signed := impl.Sign(key, body)
		for _, other := range goodTerms() {
			want := order(key, other) == 0 && impl.TermOk(signed)
			if !signedTo(pub(other), signed, body, want) {
				t.Error(shown(signed), "by", shown(other))
			}
			if want {
				read++
			}
		}
	}
	if read < 40 {
		t.Error("the keys ask for too little:", read)
	}
}

func TestSignedAtTheLimit(t *testing.T) {
	for _, size := range []int{1, 2, 100, 197, 198} {
		key, body := tree(size), tree(impl.MaxTerm-1-size)
		if !signedTo(pub(key), impl.Sign(key, body), body, true) {
			t.Error("a key of", size)
		}
		for _, more := range []int{1, 2, 50, 200} {
			body := tree(impl.MaxTerm - 1 - size + more)
			if !signedTo(pub(key), sign(key, body), body, false) {
				t.Error("a key of", size, "too much by", more)
			}
		}
	}
}

func TestSignedWithoutAPub(t *testing.T) {
	key, body := atom(5), atom(6)
	signed := impl.Sign(key, body)
	list := terms{
		key, body, text("5"), hash(key), hash(pub(key)), pub(pub(key)), pub(hash(key)), pair(key, key), pair(pub(key), pub(key)), share(key, key), seal(key, key), sign(key, key), signed, sign(pub(key), body),
		term(impl.TmPub), term(impl.TmPub, key, key), term(impl.TmPub, key, body), term(impl.TmPub, body, key), term(impl.TmPub, key, key, key),
		{Op: impl.TmPub, N: 5}, {Op: impl.TmPub, S: "5"}, {Op: 9, Kids: terms{key}}, {Op: -4, Kids: terms{key}}, {Kids: terms{key}}, {}, ring(),
	}
	for op := impl.TmAtom; op <= impl.TmSign; op++ {
		if op != impl.TmPub {
			list = append(list, term(op, key))
		}
	}
	for i, x := range list {
		if !signedTo(x, signed, body, false) {
			t.Error(i, x.Op)
		}
	}
	if !signedTo(pub(pub(key)), sign(pub(key), body), body, true) || !signedTo(pub(key), sign(pub(key), body), body, false) {
		t.Error("a pub in place of its kid")
	}
}

// The document asks for the kid of a TmPub here; that the pub is TermOk, it asks
// of certificates.
func TestWhatElseStandsInAPubIsNotAsked(t *testing.T) {
	key, other, body := atom(5), atom(4), atom(6)
	for _, x := range (terms{{Op: impl.TmPub, N: 1, Kids: terms{key}}, {Op: impl.TmPub, S: "s", Kids: terms{key}}, {Op: impl.TmPub, N: -1, S: "s", Kids: terms{key}}}) {
		if !signedTo(x, impl.Sign(key, body), body, true) || !signedTo(x, impl.Sign(other, body), body, false) {
			t.Error("signed by the kid of", x)
		}
		if got, done := impl.Agree(other, x); !answered(got, done, share(other, key), true) {
			t.Error("agreed with the kid of", x, shown(got), done)
		}
	}
}

func TestSignedByAKeyThatIsNotOk(t *testing.T) {
	body := atom(6)
	for i, bad := range append(badTerms(), impl.Term{Op: impl.TmAtom, N: 5, S: "x"}, impl.Term{Op: impl.TmAtom, N: 5, Kids: terms{body}}, ring()) {
		if !signedTo(pub(bad), impl.Sign(atom(5), body), body, false) || !signedTo(pub(bad), sign(bad, body), body, false) {
			t.Error("signed:", i)
		}
		for _, none := range append(badTerms(), impl.Sign(bad, body), bad) {
			if !signedTo(pub(bad), none, body, false) || !signedTo(bad, none, body, false) {
				t.Error("read what was never signed:", i, none.Op)
			}
		}
	}
}

func TestSignedOfWhatIsNoSign(t *testing.T) {
	key, body := atom(5), atom(6)
	list := terms{
		key, text("x"), body, pub(key), hash(key), pair(key, body), share(key, body), seal(key, body), seal(key, pair(text("1"), body)),
		hash(sign(key, body)), pair(sign(key, body), body), pair(key, sign(key, body)), seal(key, sign(key, body)), sign(body, sign(key, body)),
		term(impl.TmSign), term(impl.TmSign, key), term(impl.TmSign, key, body, body), term(impl.TmSign, key, key, body),
		{Op: impl.TmSign, N: 1, Kids: terms{key, body}}, {Op: impl.TmSign, N: -1, Kids: terms{key, body}}, {Op: impl.TmSign, S: "s", Kids: terms{key, body}},
		{Op: 0, Kids: terms{key, body}}, {Op: 9, Kids: terms{key, body}}, {Op: -8, Kids: terms{key, body}}, sign(ring(), body), ring(),
	}
	list = append(list, badTerms()...)
	for _, bad := range append(badTerms(), ring()) {
		list = append(list, sign(key, bad), sign(key, hash(bad)))
	}
	for i, x := range list {
		if !signedTo(pub(key), x, body, false) {
			t.Error("read:", i)
		}
	}
	if twice := sign(key, sign(key, body)); !signedTo(pub(key), twice, sign(key, body), true) {
		t.Error("more than one sign was read")
	}
}

func TestWhatBothComeToOpensForBoth(t *testing.T) {
	body, met := pair(text("letter"), atom(9)), 0
	for i, a := range goodTerms() {
		for j, b := range goodTerms() {
			mine, doneA := impl.Agree(a, impl.Pub(b))
			theirs, doneB := impl.Agree(b, impl.Pub(a))
			if doneA != doneB || doneA != (impl.TermSize(a)+impl.TermSize(b) < impl.MaxTerm) {
				t.Fatal(shown(a), shown(b), doneA, doneB)
			}
			n := i - j
			sealed := impl.Seal(impl.KeyOf(mine, n), n, body)
			want := impl.TermOk(sealed)
			if !opensTo(impl.KeyOf(mine, n), n, sealed, body, want) || !opensTo(impl.KeyOf(theirs, n), n, sealed, body, want) {
				t.Error(shown(a), shown(b))
			}
			if !opensTo(impl.KeyOf(theirs, n+1), n, sealed, body, false) || !opensTo(theirs, n, sealed, body, false) {
				t.Error("opened by what is not the key:", shown(a), shown(b))
			}
			if want {
				met++
			}
		}
	}
	if met < 1000 {
		t.Error("the secrets ask for too little:", met)
	}
}

func TestAgreeWithOneself(t *testing.T) {
	for _, x := range goodTerms() {
		if 2*impl.TermSize(x) >= impl.MaxTerm {
			continue
		}
		if got, done := impl.Agree(x, impl.Pub(x)); !answered(got, done, share(x, x), true) {
			t.Error(shown(x), shown(got), done)
		}
	}
}

// secretsOfEachOp hold an atom that nobody hears, so that none can be put together.
func secretsOfEachOp(own int) terms {
	a := atom(own)
	return terms{
		a, pair(text("k"), a), pub(a), share(a, a), hash(a), seal(a, text("s")), sign(a, text("s")),
		impl.KeyOf(share(a, a), 1), impl.Seal(a, 3, atom(own)), pair(hash(a), seal(text("k"), a)),
	}
}

func TestWhatIsSealedByASecretStaysUnknown(t *testing.T) {
	body := atom(77)
	for _, secret := range secretsOfEachOp(1000) {
		for _, n := range []int{0, 1, -1, math.MinInt, math.MaxInt} {
			heard := terms{impl.Seal(secret, n, impl.Pair(text("b"), body)), impl.Seal(body, n, secret), impl.Pub(secret), impl.Hash(secret), impl.Sign(secret, text("x")), impl.KeyOf(secret, n)}
			if impl.Can(heard, body) || impl.Can(heard, secret) {
				t.Error("known without it:", shown(secret), n)
			}
			if !impl.Can(append(heard, secret), body) || !impl.Can(append(heard, impl.Pair(text("x"), secret)), body) {
				t.Error("unknown with it:", shown(secret), n)
			}
		}
	}
}

func TestWhatIsSealedByAShareStaysUnknown(t *testing.T) {
	body := atom(77)
	for _, a := range secretsOfEachOp(1000) {
		for _, b := range secretsOfEachOp(2000) {
			both, _ := impl.Agree(a, impl.Pub(b))
			wrong, _ := impl.Agree(a, impl.Pub(a))
			key := impl.KeyOf(both, 1)
			heard := terms{
				impl.Pair(text("hello"), impl.Pub(a)), impl.Pair(text("reply"), impl.Pub(b)),
				impl.Seal(key, 0, body), impl.Seal(key, 1, impl.Sign(key, body)),
				impl.KeyOf(both, 2), impl.KeyOf(both, -1), impl.KeyOf(wrong, 1), impl.Hash(both), impl.Hash(key),
			}
			if !impl.TermOk(heard[3]) || impl.Can(heard, body) || impl.Can(heard, key) || impl.Can(heard, both) {
				t.Error("known without a secret:", shown(a), shown(b))
			}
			for _, secret := range (terms{a, b, both, key}) {
				if now := append(heard[:len(heard):len(heard)], secret); !impl.Can(now, body) || !impl.Can(now, key) {
					t.Error("unknown with", shown(secret), "of", shown(a), shown(b))
				}
			}
		}
	}
}

func TestOpenAndSignedAreNewMemory(t *testing.T) {
	key, body := pair(hash(atom(1)), atom(2)), pair(hash(atom(3)), share(hash(atom(4)), hash(atom(4))))
	wasSealed, wasSigned, wasPub := seal(key, pair(text("-3"), body)), sign(key, body), pub(key)
	k, p, sealed, signed := roomy(key), roomy(wasPub), roomy(wasSealed), roomy(wasSigned)
	open := func() impl.Term { got, _ := impl.Open(k, -3, sealed); return got }
	read := func() impl.Term { got, _ := impl.Signed(p, signed); return got }
	for name, answer := range map[string]func() impl.Term{"open": open, "signed": read} {
		if order(answer(), body) != 0 || !apart(answer(), answer()) {
			t.Error(name, "is not the body, or has answers that share memory")
		}
		kids := answer().Kids
		if !apart(kids[0], kids[1]) || !apart(kids[1].Kids[0], kids[1].Kids[1]) {
			t.Error(name, "has lists that share memory")
		}
		spoil(answer())
		if !untouched(k, key) || !untouched(p, wasPub) || !untouched(sealed, wasSealed) || !untouched(signed, wasSigned) {
			t.Error(name, "writes into its arguments, or shares memory with them")
		}
	}
}

func TestKeysAreNotWrittenInto(t *testing.T) {
	key := atom(3)
	list := append(goodTerms()[:30:30], badTerms()...)
	list = append(list, pub(key), sign(key, atom(4)), seal(key, pair(text("1"), atom(4))), seal(key, atom(4)), term(impl.TmPub, key, key), term(impl.TmSign, key))
	for _, wasA := range list {
		a := roomy(wasA)
		impl.KeyOf(a, 1)
		for _, wasB := range list {
			b := roomy(wasB)
			impl.Agree(a, b)
			impl.Open(a, 1, b)
			impl.Signed(a, b)
			impl.Seal(a, 1, b)
			impl.Sign(a, b)
			if !untouched(a, wasA) || !untouched(b, wasB) {
				t.Fatal("written into:", shown(wasA), shown(wasB))
			}
		}
	}
}
