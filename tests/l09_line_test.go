package tests

import (
	"math"
	"strconv"
	"strings"
	"testing"

	"loop.example/g00328/impl"
)

// What goes over the wire is written out here, not made by the program.

// sealedLine is body sealed by KeyOf key of a share, under that number.
func sealedLine(share impl.Term, key, number int, body impl.Term) impl.Term {
	return seal(hash(pair(share, text(strconv.Itoa(key)))), pair(text(strconv.Itoa(number)), body))
}

// heardAs is the term that c hears as the line s.
func heardAs(c impl.Client, s string) impl.Term {
	if !c.Tls {
		return text(s)
	}
	return sealedLine(c.Share, 2, c.In, text(s))
}

// saidAs is the term that c says as x.
func saidAs(c impl.Client, x impl.Term) impl.Term {
	if !c.Tls {
		return x
	}
	return sealedLine(c.Share, 1, c.Out, x)
}

// lineIs tells whether a line is answered so.
func lineIs(s string, ok bool, want string, done bool) bool { return s == want && ok == done }

// oddLines are texts, those that a client waits for among them.
func oddLines() []string {
	return []string{
		"", "220", "250", "250 starttls", "354", "ehlo", "starttls", "mail", "rcpt", "data", "body", "quit", "done", "hello", "reply",
		"22", "20", "2200", "0220", "220 ", " 220", "220\n", "220\r\n", "220\x00", "\x00220", "221", "22O", "+220", "220 250", "220220", "２２０",
		"25", "50", "2500", "0250", "250 ", " 250", "250\n", "250-", "251", "25O", "-250", "250 250",
		"250 starttl", "250 starttlss", "250 starttls ", " 250 starttls", "250  starttls", "250\tstarttls", "250starttls", "250-starttls", "250 STARTTLS", "250 Starttls", "250 starttls\n", "250 starttls\x00", "251 starttls", "250 tls", "starttls 250", "250 starttls 250",
		"35", "54", "3540", "0354", "354 ", " 354", "354\n", "355", "353", "500", "550", "421", "a", "\xff", strings.Repeat("250", 100),
	}
}

func TestLine(t *testing.T) {
	for _, s := range oddLines() {
		if got, ok := impl.Line(text(s)); !lineIs(got, ok, s, true) {
			t.Errorf("%q: %q %v", s, got, ok)
		}
	}
	for _, x := range goodTerms() {
		got, ok := impl.Line(x)
		if want := x.Op == impl.TmText; !lineIs(got, ok, x.S, want) {
			t.Errorf("%s: %q %v", shown(x), got, ok)
		}
	}
	for _, x := range (terms{pair(text("220"), text("220")), pub(text("220")), hash(text("220")), sign(text("220"), text("220")), seal(text("220"), text("220")), share(text("220"), text("220"))}) {
		if got, ok := impl.Line(x); !lineIs(got, ok, "", false) {
			t.Errorf("%s: %q %v", shown(x), got, ok)
		}
	}
}

// The document asks for no more than a TmText here: one that is not TermOk has an
// S too.
func TestLineOfWhatIsNotOk(t *testing.T) {
	texts := 0
	for i, x := range append(badTerms(), ring(), pub(ring()), impl.Term{S: "220"}, impl.Term{Op: impl.TmAtom, S: "220"}, impl.Term{Op: impl.TmHash, S: "220"}) {
		got, ok := impl.Line(x)
		if x.Op != impl.TmText {
			if !lineIs(got, ok, "", false) {
				t.Errorf("%d: %q %v", i, got, ok)
			}
			continue
		}
		texts++
		if !lineIs(got, ok, x.S, true) {
			t.Errorf("%d: %q %v", i, got, ok)
		}
	}
	if texts < 5 {
		t.Error("the terms ask for too little:", texts)
	}
}

func TestClientLineWithoutASeal(t *testing.T) {
	for _, step := range allSteps() {
		for _, in := range []int{0, 1, 3, 100, -1, 101} {
			c := clientWith(openClient(step), func(c *impl.Client) { c.In = in })
			for _, s := range oddLines() {
				if got, ok := impl.ClientLine(c, text(s)); !lineIs(got, ok, s, true) {
					t.Errorf("%q: %q %v", s, got, ok)
				}
			}
			for _, x := range goodTerms() {
				want, done := impl.Line(x)
				if got, ok := impl.ClientLine(c, x); !lineIs(got, ok, want, done) {
					t.Errorf("%s: %q %v", shown(x), got, ok)
				}
			}
			// A share that it has without a seal is nothing to it.
			c.Share = share(atom(20), atom(40))
			if got, ok := impl.ClientLine(c, sealedLine(c.Share, 2, in, text("250"))); !lineIs(got, ok, "", false) {
				t.Errorf("opened without a seal: %q %v", got, ok)
			}
		}
	}
}

func TestClientLineUnderSeal(t *testing.T) {
	for _, step := range allSteps() {
		for in := 0; in <= 101; in++ {
			c := clientWith(sealedClient(step), func(c *impl.Client) { c.In = in })
			for _, s := range []string{"250", "", "250 starttls", "x", strings.Repeat("x", 300)} {
				if got, ok := impl.ClientLine(c, heardAs(c, s)); !lineIs(got, ok, s, true) {
					t.Errorf("%d: %q %v", in, got, ok)
				}
			}
		}
	}
	for n := range numbers() {
		c := clientWith(provedClient(impl.ClMail), func(c *impl.Client) { c.In = n })
		if got, ok := impl.ClientLine(c, heardAs(c, "250")); !lineIs(got, ok, "250", true) {
			t.Errorf("%d: %q %v", n, got, ok)
		}
	}
}

func TestClientLineOfAnotherSeal(t *testing.T) {
	c := provedClient(impl.ClMail)
	line := text("250")
	for key := -3; key <= 30; key++ {
		for number := -3; number <= 30; number++ {
			right := key == 2 && number == c.In
			want := ""
			if right {
				want = "250"
			}
			if got, ok := impl.ClientLine(c, sealedLine(c.Share, key, number, line)); !lineIs(got, ok, want, right) {
				t.Errorf("KeyOf %d, number %d: %q %v", key, number, got, ok)
			}
		}
	}
	for _, other := range append(shortTerms(), share(atom(20), atom(41)), share(atom(19), atom(40)), share(atom(40), atom(20))) {
		if got, ok := impl.ClientLine(c, sealedLine(other, 2, c.In, line)); !lineIs(got, ok, "", false) {
			t.Errorf("by the share %s: %q %v", shown(other), got, ok)
		}
	}
	numbered := pair(text("3"), line)
	for _, key := range (terms{c.Share, hash(c.Share), hash(pair(text("2"), c.Share)), hash(pair(c.Share, atom(2))), pair(c.Share, text("2")), hash(hash(pair(c.Share, text("2")))), hash(pair(c.Share, text("02")))}) {
		if got, ok := impl.ClientLine(c, seal(key, numbered)); !lineIs(got, ok, "", false) {
			t.Errorf("by the key %s: %q %v", shown(key), got, ok)
		}
	}
}

func TestClientLineOfNoSealAndNoText(t *testing.T) {
	c := provedClient(impl.ClMail)
	key := hash(pair(c.Share, text("2")))
	list := append(goodTerms(), append(badTerms(), ring(), pub(ring()))...)
	for _, s := range oddLines() {
		list = append(list, text(s))
	}
	list = append(list,
		seal(key, text("250")), seal(key, pair(text("250"), text("3"))), seal(key, pair(atom(3), text("250"))), seal(key, pair(text("03"), text("250"))), seal(key, pair(text("+3"), text("250"))), seal(key, pair(text(""), text("250"))),
		seal(text("250"), key), sign(key, pair(text("3"), text("250"))), pair(key, pair(text("3"), text("250"))), hash(heardAs(c, "250")), pub(heardAs(c, "250")), pair(heardAs(c, "250"), heardAs(c, "250")),
		sealedLine(c.Share, 2, 3, heardAs(c, "250")),
		impl.Term{Op: impl.TmSeal, N: 1, Kids: heardAs(c, "250").Kids}, impl.Term{Op: impl.TmSeal, S: "s", Kids: heardAs(c, "250").Kids}, term(impl.TmSeal, key, pair(text("3"), text("250")), text("250")),
		sealedLine(c.Share, 2, 3, impl.Term{Op: impl.TmText, N: 1, S: "250"}), sealedLine(c.Share, 2, 3, text(strings.Repeat("x", 301))),
	)
	for i, x := range list {
		if got, ok := impl.ClientLine(c, x); !lineIs(got, ok, "", false) {
			t.Errorf("%d: %q %v", i, got, ok)
		}
	}
	for _, x := range goodTerms() {
		want := x.Op == impl.TmText
		if got, ok := impl.ClientLine(c, sealedLine(c.Share, 2, 3, x)); !lineIs(got, ok, x.S, want) {
			t.Errorf("sealed: %s: %q %v", shown(x), got, ok)
		}
	}
}

// What can't be made is zero: a share that is not TermOk opens nothing, even what
// is sealed by nothing.
func TestClientLineOfAShareThatIsNotOk(t *testing.T) {
	for i, bad := range append(badTerms(), ring(), tree(200), tree(198)) {
		c := clientWith(provedClient(impl.ClMail), func(c *impl.Client) { c.Share = bad })
		for _, x := range (terms{sealedLine(bad, 2, 3, text("250")), seal(impl.Term{}, pair(text("3"), text("250"))), seal(hash(impl.Term{}), pair(text("3"), text("250"))), text("250"), {}, bad}) {
			if got, ok := impl.ClientLine(c, x); !lineIs(got, ok, "", false) {
				t.Errorf("%d: %q %v", i, got, ok)
			}
		}
	}
}

func TestClientSayWithoutASeal(t *testing.T) {
	for _, step := range append(allSteps(), 0, 11, -1) {
		for _, out := range []int{0, 1, 99, 100, 101, -1, math.MaxInt, math.MinInt} {
			c := clientWith(openClient(step), func(c *impl.Client) { c.Out = out })
			for i, x := range append(goodTerms(), badTerms()...) {
				if got, said := impl.ClientSay(c, x); !sameClient(got, c) || order(said, x) != 0 {
					t.Error(i, told(got), shown(said))
				}
			}
		}
	}
	for i, bad := range badTerms() {
		c := clientWith(openClient(impl.ClMail), func(c *impl.Client) { c.Share, c.Host, c.Proved = bad, "", true })
		if got, said := impl.ClientSay(c, text("y")); !sameClient(got, c) || order(said, text("y")) != 0 {
			t.Error(i, "a share that is not ok:", told(got), shown(said))
		}
	}
}

func TestClientSayUnderSeal(t *testing.T) {
	for _, step := range append(allSteps(), 0, 11, -1) {
		for out := -2; out <= 103; out++ {
			for _, base := range []impl.Client{sealedClient(step), provedClient(step), mustBe(provedClient(step))} {
				c := clientWith(base, func(c *impl.Client) { c.Out = out })
				want := clientWith(c, func(c *impl.Client) { c.Out++ })
				for _, x := range (terms{text("mail"), text(""), atom(30), pair(text("body"), atom(30)), impl.Done(c.Share)}) {
					if got, said := impl.ClientSay(c, x); !sameClient(got, want) || order(said, saidAs(c, x)) != 0 {
						t.Error(told(got), shown(said))
					}
				}
			}
		}
	}
	for _, x := range append(goodTerms(), badTerms()...) {
		c := provedClient(impl.ClMail)
		want := clientWith(c, func(c *impl.Client) { c.Out++ })
		if got, said := impl.ClientSay(c, x); !sameClient(got, want) || !fitting(said, saidAs(c, x)) {
			t.Error(told(got), shown(said))
		}
	}
}

// Its number is as it is, up to where numbers turn round.
func TestClientSayOfAnyNumber(t *testing.T) {
	for n, digits := range numbers() {
		c := clientWith(sealedClient(impl.ClMail), func(c *impl.Client) { c.Out = n })
		want := clientWith(c, func(c *impl.Client) { c.Out++ })
		said := seal(hash(pair(c.Share, text("1"))), pair(text(digits), text("y")))
		if got, x := impl.ClientSay(c, text("y")); !sameClient(got, want) || order(x, said) != 0 {
			t.Error(n, told(got), shown(x))
		}
	}
}

// Out is one more, though what can't be sealed is zero.
func TestClientSayOfAShareThatIsNotOk(t *testing.T) {
	for i, bad := range append(badTerms(), tree(200), tree(194)) {
		c := clientWith(provedClient(impl.ClMail), func(c *impl.Client) { c.Share = bad })
		want := clientWith(c, func(c *impl.Client) { c.Out++ })
		if got, said := impl.ClientSay(c, text("y")); !sameClient(got, want) || !isZero(said) {
			t.Error(i, told(got), shown(said))
		}
	}
	for size := 180; size <= impl.MaxTerm; size++ {
		c := clientWith(provedClient(impl.ClMail), func(c *impl.Client) { c.Share = tree(size) })
		if _, said := impl.ClientSay(c, text("y")); !fitting(said, saidAs(c, text("y"))) || isZero(said) != (size+7 > impl.MaxTerm) {
			t.Error("a share of", size, shown(said))
		}
	}
}

// What a client says, it does not hear as its own.
func TestWhatIsSaidIsNotHeard(t *testing.T) {
	for in := range 10 {
		for out := range 10 {
			c := clientWith(provedClient(impl.ClMail), func(c *impl.Client) { c.In, c.Out = in, out })
			_, said := impl.ClientSay(c, text("250"))
			if got, ok := impl.ClientLine(c, said); ok {
				t.Errorf("%d %d: %q", in, out, got)
			}
		}
	}
}

// Terms that are no tree of a thousand, and such that have no end, are answered too.
func TestClientsOfDeepTerms(t *testing.T) {
	deep := atom(3)
	for range 200000 {
		deep = impl.Term{Op: impl.TmHash, Kids: terms{deep}}
	}
	c := openClient(impl.ClMail)
	if _, said := impl.ClientSay(c, deep); impl.TermSize(said) != 200001 || !impl.Same(said, deep) {
		t.Error("not as it is:", impl.TermSize(said))
	}
	c.Share = deep
	if got, said := impl.ClientHear(c, text("250"), 0); !impl.Same(got.Share, deep) || len(said) != 0 {
		t.Error("not as it was")
	}
	for _, endless := range (terms{ring(), pair(ring(), ring()), pub(ring())}) {
		for _, tls := range []bool{false, true} {
			c := clientWith(openClient(impl.ClMail), func(c *impl.Client) { c.Tls, c.Share = tls, endless })
			impl.ClientLine(c, endless)
			if got, said := impl.ClientHear(c, endless, 0); got.Step != impl.ClMail || got.Share.Op != endless.Op || len(said) != 0 {
				t.Error("heard:", got.Step)
			}
			if _, said := impl.ClientSay(c, endless); tls != isZero(said) || !tls && said.Op != endless.Op {
				t.Error("said:", said.Op)
			}
			if got, said := impl.ClientHear(sealedClient(impl.ClMail), endless, 0); !sameClient(got, sealedClient(impl.ClMail)) || len(said) != 0 {
				t.Error("heard:", told(got))
			}
		}
	}
}
