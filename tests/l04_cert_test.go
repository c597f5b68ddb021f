package tests

import (
	"math"
	"slices"
	"strconv"
	"strings"
	"testing"

	"loop.example/g00328/impl"
)

// certTerm is a certificate's term written out, right or not.
func certTerm(key, host, pub, until impl.Term) impl.Term {
	return sign(key, pair(host, pair(pub, until)))
}

// rightTerm is what CertTerm of c is to be.
func rightTerm(c impl.Cert) impl.Term {
	return certTerm(atom(1), text(c.Host), c.Pub, text(strconv.Itoa(c.Until)))
}

func goodPubs() terms {
	list := terms{pub(tree(150))}
	for _, x := range goodTerms() {
		if impl.TermSize(x) < 100 {
			list = append(list, pub(x))
		}
	}
	return list
}

// badPubs are no TmPub, or one that is not TermOk.
func badPubs() terms {
	list := append(badTerms(), ring(), pub(ring()), pub(tree(200)), pub(tree(201)))
	for _, x := range goodTerms() {
		if x.Op != impl.TmPub {
			list = append(list, x)
		}
	}
	for _, bad := range badTerms() {
		list = append(list, pub(bad))
	}
	return append(list, withWrongParts(impl.TmPub, 1)...)
}

// goodUntils and badUntils are numbers, goodUntils with their digits.
func goodUntils() map[int]string {
	return map[int]string{0: "0", 1: "1", 9: "9", 10: "10", 50: "50", 99: "99", 100: "100", 5050: "5050", 99999: "99999", 100000: "100000"}
}

func badUntils() []int {
	return []int{-1, -2, -50, -100000, impl.MaxTime + 1, impl.MaxTime + 2, 1000000, math.MinInt, math.MinInt + 1, math.MaxInt, math.MaxInt - 1, 1 << 32, 1<<32 + 50, -1 << 32}
}

// goodCerts are CertOk, and so are their terms; no two are the same.
func goodCerts() []impl.Cert {
	var list []impl.Cert
	for _, host := range goodHosts() {
		for _, key := range goodPubs() {
			list = append(list, impl.Cert{Host: host, Pub: key, Until: 50})
		}
		for until := range goodUntils() {
			if until != 50 {
				list = append(list, impl.Cert{Host: host, Pub: pub(atom(10)), Until: until})
			}
		}
	}
	return list
}

// badCerts are not CertOk, by each of their fields alone and by all of them.
func badCerts() []impl.Cert {
	list := []impl.Cert{{}, {Host: "mx", Pub: atom(1), Until: -1}}
	for _, host := range badHosts() {
		list = append(list, impl.Cert{Host: host, Pub: pub(atom(10)), Until: 50})
	}
	for _, key := range badPubs() {
		list = append(list, impl.Cert{Host: "mx.a", Pub: key, Until: 50})
	}
	for _, until := range badUntils() {
		list = append(list, impl.Cert{Host: "mx.a", Pub: pub(atom(10)), Until: until})
	}
	return list
}

func sameCert(a, b impl.Cert) bool {
	return a.Host == b.Host && a.Until == b.Until && order(a.Pub, b.Pub) == 0
}

func noCert(c impl.Cert) bool { return c.Host == "" && c.Until == 0 && isZero(c.Pub) }

// isNoCert tells whether CertOf answers so, and CertGood whatever it is asked.
func isNoCert(x impl.Term) bool {
	c, done := impl.CertOf(x)
	if done || !noCert(c) {
		return false
	}
	for _, host := range []string{"mx.a", "mx.b", "", "mx"} {
		for _, now := range []int{math.MinInt, 0, 50} {
			if key, good := impl.CertGood(x, host, now); good || !isZero(key) {
				return false
			}
		}
	}
	return true
}

func TestCertConstants(t *testing.T) {
	if impl.CaAtom != 1 || impl.MaxTime != 100000 {
		t.Error(impl.CaAtom, impl.MaxTime)
	}
}

func TestCertOkOfGoodAndBad(t *testing.T) {
	for _, c := range goodCerts() {
		if !impl.CertOk(c) {
			t.Error("not ok:", c.Host, shown(c.Pub), c.Until)
		}
	}
	for i, c := range badCerts() {
		if impl.CertOk(c) {
			t.Errorf("ok: %d %q %d %d", i, c.Host, c.Pub.Op, c.Until)
		}
	}
}

func TestCertOkAtTheLimits(t *testing.T) {
	for size := impl.MaxTerm - 10; size <= impl.MaxTerm+10; size++ {
		c := impl.Cert{Host: "mx.a", Pub: pub(tree(size - 1)), Until: 50}
		if got := impl.CertOk(c); got != (size <= impl.MaxTerm) {
			t.Error("a Pub of", size, got)
		}
	}
	for until := -3; until <= impl.MaxTime+3; until++ {
		c := impl.Cert{Host: "mx.a", Pub: pub(atom(10)), Until: until}
		if got := impl.CertOk(c); got != (until >= 0 && until <= impl.MaxTime) {
			t.Fatal(until, got)
		}
	}
}

func TestCertTermText(t *testing.T) {
	ten := pub(atom(10))
	for want, c := range map[string]impl.Cert{
		"sign(1,pair(<mx.a>,pair(pub(10),<50>)))":                 {Host: "mx.a", Pub: ten, Until: 50},
		"sign(1,pair(<mx.b>,pair(pub(10),<50>)))":                 {Host: "mx.b", Pub: ten, Until: 50},
		"sign(1,pair(<mx.a>,pair(pub(0),<50>)))":                  {Host: "mx.a", Pub: pub(atom(0)), Until: 50},
		"sign(1,pair(<mx.a>,pair(pub(10),<0>)))":                  {Host: "mx.a", Pub: ten},
		"sign(1,pair(<mx.a>,pair(pub(10),<100000>)))":             {Host: "mx.a", Pub: ten, Until: impl.MaxTime},
		"sign(1,pair(<0.9-9.z>,pair(pub(pair(<x>,pub(1))),<7>)))": {Host: "0.9-9.z", Pub: pub(pair(text("x"), pub(atom(1)))), Until: 7},
	} {
		if got := impl.TermText(impl.CertTerm(c)); got != want {
			t.Error(got, want)
		}
	}
}

func TestCertTermOfGoodAndBad(t *testing.T) {
	for _, c := range goodCerts() {
		if got := impl.CertTerm(c); order(got, rightTerm(c)) != 0 {
			t.Error(shown(got), shown(rightTerm(c)))
		}
	}
	for i, c := range badCerts() {
		if got := impl.CertTerm(c); !isZero(got) {
			t.Error(i, shown(got))
		}
	}
	for until, digits := range goodUntils() {
		c := impl.Cert{Host: "mx.a", Pub: pub(atom(10)), Until: until}
		if got := impl.CertTerm(c); order(got, certTerm(atom(1), text("mx.a"), c.Pub, text(digits))) != 0 {
			t.Error(until, shown(got))
		}
	}
}

func TestCertAtMaxTerm(t *testing.T) {
	for size := 180; size <= impl.MaxTerm; size++ {
		c := impl.Cert{Host: "mx.a", Pub: pub(tree(size - 1)), Until: 50}
		got, fits := impl.CertTerm(c), size+6 <= impl.MaxTerm
		if fits && (impl.TermSize(got) != size+6 || order(got, rightTerm(c)) != 0) || !fits && !isZero(got) {
			t.Error("a Pub of", size, shown(got))
		}
		back, done := impl.CertOf(rightTerm(c))
		if done != fits || fits && !sameCert(back, c) || !fits && !isNoCert(rightTerm(c)) {
			t.Error("read with a Pub of", size, done)
		}
	}
}

func TestCertIsReadAsItWas(t *testing.T) {
	for _, c := range goodCerts() {
		for _, x := range (terms{impl.CertTerm(c), rightTerm(c)}) {
			if got, done := impl.CertOf(x); !done || !sameCert(got, c) {
				t.Error(shown(x), got.Host, got.Until, shown(got.Pub), done)
			}
		}
	}
	for until := range impl.MaxTime + 1 {
		c := impl.Cert{Host: "mx.a", Pub: pub(atom(10)), Until: until}
		if got, done := impl.CertOf(impl.CertTerm(c)); !done || !sameCert(got, c) {
			t.Fatal(until, got, done)
		}
	}
}

func TestCertsOfOthers(t *testing.T) {
	host, key, until := text("mx.a"), pub(atom(10)), text("50")
	if isNoCert(certTerm(atom(1), host, key, until)) {
		t.Fatal("the right one is none")
	}
	others := append(goodTerms(), atom(2), atom(101), atom(11), text("1"), pub(atom(1)), hash(atom(1)), pair(atom(1), atom(1)), share(atom(1), atom(1)), seal(atom(1), atom(1)), sign(atom(1), atom(1)), key, host)
	for _, other := range append(others, append(badTerms(), impl.Term{Op: impl.TmAtom, N: 1, S: "1"}, impl.Term{N: 1})...) {
		if order(other, atom(1)) == 0 {
			continue
		}
		if x := certTerm(other, host, key, until); !isNoCert(x) {
			t.Error("of another one:", shown(x))
		}
	}
	for n := range 2000 {
		if x := certTerm(atom(n), host, key, until); isNoCert(x) != (n != 1) {
			t.Error("signed by", n)
		}
	}
}

func TestCertOfOtherShapes(t *testing.T) {
	ca, host, key, until := atom(1), text("mx.a"), pub(atom(10)), text("50")
	dated := pair(key, until)
	body := pair(host, dated)
	right := sign(ca, body)
	list := terms{
		ca, host, key, until, dated, body, hash(right), pub(right), pair(ca, body), share(ca, body), seal(ca, body), pair(right, right),
		sign(ca, right), sign(atom(2), right), sign(ca, sign(ca, body)), sign(body, ca), seal(ca, pair(text("0"), right)),
		sign(ca, ca), sign(ca, host), sign(ca, key), sign(ca, until), sign(ca, dated), sign(ca, pub(body)), sign(ca, hash(body)),
		sign(ca, sign(host, dated)), sign(ca, seal(host, dated)), sign(ca, share(host, dated)),
		sign(ca, pair(host, host)), sign(ca, pair(host, key)), sign(ca, pair(host, until)), sign(ca, pair(host, atom(50))),
		sign(ca, pair(host, pub(dated))), sign(ca, pair(host, hash(dated))), sign(ca, pair(host, sign(key, until))),
		sign(ca, pair(host, seal(key, until))), sign(ca, pair(host, share(until, key))),
		sign(ca, pair(dated, host)), sign(ca, pair(pair(host, key), until)), sign(ca, pair(key, pair(host, until))),
		sign(ca, pair(host, pair(until, key))), sign(ca, pair(until, pair(key, host))), sign(ca, pair(host, pair(key, dated))),
		sign(ca, pair(host, body)), sign(ca, pair(body, dated)), sign(ca, pair(host, pair(key, pair(until, until)))),
	}
	for _, x := range list {
		if !impl.TermOk(x) {
			t.Fatal("is not ok itself:", shown(x))
		}
		if !isNoCert(x) {
			t.Error("read:", shown(x))
		}
	}
}

func TestCertOfWrongFields(t *testing.T) {
	ca, host, key, until := atom(1), text("mx.a"), pub(atom(10)), text("50")
	var list terms
	for _, s := range badHosts() {
		x := certTerm(ca, text(s), key, until)
		if got, good := impl.CertGood(x, s, 50); good || !isZero(got) {
			t.Errorf("good for %q", s)
		}
		list = append(list, x)
	}
	for _, bad := range badPubs() {
		list = append(list, certTerm(ca, host, bad, until))
	}
	for _, x := range append(goodTerms(), badTerms()...) {
		list = append(list, certTerm(ca, x, key, until))
		if x.Op != impl.TmText || !slices.Contains([]string{"0", "220"}, x.S) {
			list = append(list, certTerm(ca, host, key, x))
		}
	}
	for _, x := range (terms{
		atom(50), atom(0), pub(until), hash(until), pair(until, until), share(until, until), seal(until, until), sign(ca, until),
		{Op: impl.TmText, N: 50, S: "50"}, {Op: impl.TmText, S: "50", Kids: terms{ca}}, {Op: impl.TmAtom, N: 50, S: "50"}, {Op: 9, S: "50"}, {S: "50"},
	}) {
		list = append(list, certTerm(ca, host, key, x))
	}
	for _, x := range (terms{
		pub(host), hash(host), pair(host, host), {Op: impl.TmText, N: 1, S: "mx.a"}, {Op: impl.TmText, S: "mx.a", Kids: terms{ca}},
		{Op: impl.TmAtom, N: 1, S: "mx.a"}, {Op: 9, S: "mx.a"}, {S: "mx.a"},
	}) {
		list = append(list, certTerm(ca, x, key, until))
	}
	for i, x := range list {
		if !isNoCert(x) {
			t.Error("read:", i)
		}
	}
}

func TestCertOfUntilsThatAreNone(t *testing.T) {
	list := []string{
		"", "-", "+", "00", "-0", "+0", "000", "01", "050", "0050", "00000000000000000000050", "+50", "-50", "--50", "-1", " 50", "50 ", "5 0", "50\n", "50\x00", "\x0050",
		"50.", "50.0", ".5", "5e1", "0x32", "0b1", "0o62", "0x0", "5_0", "1_00", "5,0", "x", "5x", "x5", "fifty", "\u0665", "\uff15\uff10", "(50)", "<50>", "\xff",
		"100001", "100002", "0100000", "200000", "1000000", "4294967296", "4294967346", "2147483648",
		"9223372036854775807", "9223372036854775808", "-9223372036854775808", "-9223372036854775809",
		"18446744073709551615", "18446744073709551616", "18446744073709551666", strings.Repeat("9", 300), "1" + strings.Repeat("0", 299), strings.Repeat("0", 300), strings.Repeat("0", 298) + "50", strings.Repeat("9", 301),
	}
	for _, n := range badUntils() {
		list = append(list, strconv.Itoa(n))
	}
	for _, s := range list {
		if !isNoCert(certTerm(atom(1), text("mx.a"), pub(atom(10)), text(s))) {
			t.Errorf("read: %q", s)
		}
	}
}

func TestCertOfWhatIsNotOk(t *testing.T) {
	ca, host, key, until := atom(1), text("mx.a"), pub(atom(10)), text("50")
	dated := pair(key, until)
	body := pair(host, dated)
	list := append(badTerms(),
		ring(), sign(ca, ring()), sign(ring(), body), sign(ca, pair(host, ring())), sign(ca, pair(ring(), dated)),
		certTerm(ca, ring(), key, until), certTerm(ca, host, pub(ring()), until), certTerm(ca, host, key, ring()),
		term(impl.TmSign), term(impl.TmSign, ca), term(impl.TmSign, ca, body, body), term(impl.TmSign, body),
		impl.Term{Op: 0, Kids: terms{ca, body}}, impl.Term{Op: 9, Kids: terms{ca, body}}, impl.Term{Op: -8, Kids: terms{ca, body}},
		sign(ca, term(impl.TmPair)), sign(ca, term(impl.TmPair, host)), sign(ca, term(impl.TmPair, host, dated, dated)), sign(ca, term(impl.TmPair, host, key, until)),
		sign(ca, pair(host, term(impl.TmPair))), sign(ca, pair(host, term(impl.TmPair, key))), sign(ca, pair(host, term(impl.TmPair, key, until, until))),
	)
	for _, op := range []int{impl.TmPair, impl.TmSign} {
		for _, n := range []int{-1, 1} {
			list = append(list, impl.Term{Op: op, N: n, Kids: terms{ca, body}}, sign(ca, impl.Term{Op: op, N: n, Kids: terms{host, dated}}))
			list = append(list, sign(ca, pair(host, impl.Term{Op: op, N: n, Kids: terms{key, until}})))
		}
		list = append(list, impl.Term{Op: op, S: "s", Kids: terms{ca, body}}, sign(ca, impl.Term{Op: op, S: "s", Kids: terms{host, dated}}))
		list = append(list, sign(ca, pair(host, impl.Term{Op: op, S: "s", Kids: terms{key, until}})))
	}
	for _, bad := range badTerms() {
		list = append(list, sign(ca, bad), sign(ca, pair(host, bad)), sign(ca, pair(bad, dated)))
	}
	for i, x := range list {
		if !isNoCert(x) {
			t.Error("read:", i)
		}
	}
}

func TestCertGoodUpToItsEnd(t *testing.T) {
	key := pub(hash(atom(10)))
	for until := range goodUntils() {
		x := impl.CertTerm(impl.Cert{Host: "mx.a", Pub: key, Until: until})
		for _, now := range []int{
			until, until - 1, until + 1, until - 2, until + 2, 0, -1, 1, -until, 50, 51, impl.MaxTime, impl.MaxTime + 1,
			math.MinInt, math.MinInt + 1, math.MaxInt, math.MaxInt - 1, 1 << 32, -1 << 32,
		} {
			got, good := impl.CertGood(x, "mx.a", now)
			if !answered(got, good, key, now <= until) {
				t.Error("until", until, "now", now, shown(got), good)
			}
		}
	}
}

func TestCertGoodForItsHostAlone(t *testing.T) {
	key := pub(atom(10))
	asked := append(append(goodHosts(), badHosts()...), "mx.a.", ".mx.a", "mx.aa", "mmx.a", "mx", "MX.A", "mx.a\x00", "mx.a ", "<mx.a>", strings.Repeat("x", 301))
	for _, host := range goodHosts() {
		x := impl.CertTerm(impl.Cert{Host: host, Pub: key, Until: 50})
		for _, other := range asked {
			for _, now := range []int{math.MinInt, -1, 0, 50, 51} {
				got, good := impl.CertGood(x, other, now)
				if !answered(got, good, key, other == host && now <= 50) {
					t.Errorf("of %q asked for %q now %d: %s %v", host, other, now, shown(got), good)
				}
			}
		}
	}
}

func TestCertGoodGivesItsPub(t *testing.T) {
	for _, key := range goodPubs() {
		x := impl.CertTerm(impl.Cert{Host: "mx.a", Pub: key, Until: 50})
		got, good := impl.CertGood(x, "mx.a", 7)
		if !answered(got, good, key, true) {
			t.Error(shown(key), shown(got), good)
		}
	}
}

// certByWord is what the document says of CertOf, told apart from the program:
// it puts the certificate together again, and looks whether it is x.
func certByWord(x impl.Term) (impl.Cert, bool) {
	if !impl.TermOk(x) || x.Op != impl.TmSign || x.Kids[1].Op != impl.TmPair || x.Kids[1].Kids[1].Op != impl.TmPair {
		return impl.Cert{}, false
	}
	last := x.Kids[1].Kids[1].Kids
	for until := range 101 {
		c := impl.Cert{Host: x.Kids[1].Kids[0].S, Pub: last[0], Until: until}
		if hostByWord(c.Host) && c.Pub.Op == impl.TmPub && order(rightTerm(c), x) == 0 {
			return c, true
		}
	}
	return impl.Cert{}, false
}

// field is one of few, most of them right.
func field(d *dice, list ...impl.Term) impl.Term {
	if d.below(12) == 0 {
		return d.term(2)
	}
	return list[d.below(len(list))]
}

func TestCertOfByWord(t *testing.T) {
	d, read := dice(44), 0
	for range 30000 {
		x := certTerm(
			field(&d, atom(1), atom(1), atom(1), atom(1), atom(2), text("1")),
			field(&d, text("mx.a"), text("mx.b"), text("m-x.a"), text("mx"), text("-mx.a"), atom(3)),
			field(&d, pub(d.term(2)), pub(d.term(3)), pub(atom(10)), hash(atom(10)), pub(impl.Term{Op: 9})),
			field(&d, text("0"), text("50"), text("100"), text("050"), text("+7"), text("100001"), atom(50)),
		)
		want, done := certByWord(x)
		got, ok := impl.CertOf(x)
		if ok != done || done && !sameCert(got, want) || !done && !isNoCert(x) {
			t.Fatal(shown(x), got.Host, got.Until, ok)
		}
		if done {
			read++
		}
	}
	if read < 1000 {
		t.Error("the terms ask for too little:", read)
	}
}

func TestWhoHasNotTheCaMakesNoCert(t *testing.T) {
	mine := impl.Cert{Host: "mx.a", Pub: pub(atom(666)), Until: 50}
	heard := terms{atom(666), atom(2), text("1"), pub(atom(1)), hash(atom(1))}
	for _, c := range goodCerts()[:40] {
		heard = append(heard, impl.CertTerm(c))
	}
	if impl.Can(heard, impl.CertTerm(mine)) {
		t.Error("a certificate was made without the atom that signs them")
	}
	if !impl.Can(append(heard, atom(impl.CaAtom)), impl.CertTerm(mine)) {
		t.Error("who has the atom that signs them can't make one")
	}
}

func TestCertsAreNewMemory(t *testing.T) {
	wasPub := pub(pair(hash(text("x")), share(hash(atom(4)), hash(atom(4)))))
	was := certTerm(atom(1), text("mx.a"), wasPub, text("50"))
	c := impl.Cert{Host: "mx.a", Pub: roomy(wasPub), Until: 50}
	x := roomy(was)
	for name, answer := range map[string]func() impl.Term{
		"CertTerm": func() impl.Term { return impl.CertTerm(c) },
		"CertOf":   func() impl.Term { got, _ := impl.CertOf(x); return got.Pub },
		"CertGood": func() impl.Term { got, _ := impl.CertGood(x, "mx.a", 50); return got },
	} {
		if want := answer(); order(want, was) != 0 && order(want, wasPub) != 0 {
			t.Error(name, shown(want))
		}
		if !apart(answer(), answer()) {
			t.Error(name, "has answers that share memory")
		}
		if key := pubWithin(answer()); !apart(key.Kids[0].Kids[0], key.Kids[0].Kids[1]) {
			t.Error(name, "has lists that share memory")
		}
		if key := pubWithin(answer()); !apart(key.Kids[0].Kids[1].Kids[0], key.Kids[0].Kids[1].Kids[1]) {
			t.Error(name, "has lists that share memory, further in")
		}
		if sharesTexts(answer(), x, c.Pub) {
			t.Error(name, "has a text of its arguments")
		}
		spoil(answer())
		if !untouched(c.Pub, wasPub) || !untouched(x, was) || c.Host != "mx.a" || c.Until != 50 {
			t.Error(name, "writes into its arguments, or shares memory with them")
		}
	}
}

func TestCertOfHasItsOwnHost(t *testing.T) {
	x := certTerm(atom(1), text("mx.a"), pub(atom(10)), text("50"))
	if c, done := impl.CertOf(x); !done || liesWithin(c.Host, x.Kids[1].Kids[0].S) {
		t.Error("the host shares memory with the argument:", done)
	}
}

// pubWithin is the Pub of a certificate's term, or t, where t is one itself.
func pubWithin(t impl.Term) impl.Term {
	if t.Op == impl.TmPub {
		return t
	}
	return t.Kids[1].Kids[1].Kids[0]
}

func TestCertsAreNotWrittenInto(t *testing.T) {
	host, key, until := text("mx.a"), pub(pair(atom(10), hash(atom(11)))), text("50")
	list := append(goodTerms()[:40:40], badTerms()...)
	for _, ca := range (terms{atom(1), atom(2)}) {
		list = append(list, certTerm(ca, host, key, until), certTerm(ca, text("mx"), key, until), certTerm(ca, host, hash(key), until))
		list = append(list, certTerm(ca, host, key, text("050")), certTerm(ca, host, key, atom(50)), sign(ca, host), sign(ca, pair(host, key)), sign(ca, term(impl.TmPair, host)))
	}
	list = append(list, key, hash(key), pub(tree(194)), term(impl.TmPub, key, key))
	for _, was := range list {
		x, wasText := roomy(was), impl.TermText(was)
		for _, y := range (terms{x, was}) {
			impl.CertOf(y)
			impl.CertGood(y, "mx.a", 50)
			for _, host := range []string{"mx.a", "mx"} {
				for _, until := range []int{50, -1} {
					impl.CertOk(impl.Cert{Host: host, Pub: y, Until: until})
					impl.CertTerm(impl.Cert{Host: host, Pub: y, Until: until})
				}
			}
			if impl.TermText(y) != wasText {
				t.Fatal("written into:", shown(y))
			}
		}
		if !untouched(x, was) {
			t.Fatal("written into:", shown(was))
		}
	}
}
