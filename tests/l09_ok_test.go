package tests

import (
	"fmt"
	"math"
	"testing"

	"loop.example/g00328/impl"
)

// allSteps are those of a client, in order.
func allSteps() []int {
	return []int{impl.ClGreet, impl.ClEhlo, impl.ClReady, impl.ClReply, impl.ClMail, impl.ClRcpt, impl.ClData, impl.ClBody, impl.ClDone, impl.ClFail}
}

// openClient is at that step, and not under seal.
func openClient(step int) impl.Client {
	return impl.Client{Step: step, Host: "mx.a", Eph: 20, Body: 30}
}

// sealedClient is under seal, without a proof.
func sealedClient(step int) impl.Client {
	c := openClient(step)
	c.Tls, c.Share, c.In, c.Out = true, share(atom(20), atom(40)), 3, 5
	return c
}

func provedClient(step int) impl.Client {
	c := sealedClient(step)
	c.Proved = true
	return c
}

func mustBe(c impl.Client) impl.Client {
	c.Must = true
	return c
}

// clientWith is c with one thing turned.
func clientWith(c impl.Client, turn func(c *impl.Client)) impl.Client {
	turn(&c)
	return c
}

func sameClient(a, b impl.Client) bool {
	if order(a.Share, b.Share) != 0 {
		return false
	}
	return a.Step == b.Step && a.Host == b.Host && a.Must == b.Must && a.Eph == b.Eph && a.Body == b.Body && a.In == b.In && a.Out == b.Out && a.Tls == b.Tls && a.Proved == b.Proved
}

// told is c as text, for what a test tells.
func told(c impl.Client) string {
	return fmt.Sprintf("step %d of %.70q must %v eph %d body %d share %s in %d out %d tls %v proved %v", c.Step, c.Host, c.Must, c.Eph, c.Body, shown(c.Share), c.In, c.Out, c.Tls, c.Proved)
}

// clientByWord is what the document says of ClientOk, told apart from the program.
func clientByWord(c impl.Client) bool {
	needs := c.Must && c.Step >= 5 && c.Step <= 9
	return c.Step >= 1 && c.Step <= 10 && hostByWord(c.Host) &&
		c.Eph >= 0 && c.Eph <= 1000000 && c.Body >= 0 && c.Body <= 1000000 &&
		c.In >= 0 && c.In <= 100 && c.Out >= 0 && c.Out <= 100 &&
		(c.Tls && impl.TermOk(c.Share) || !c.Tls && isZero(c.Share)) &&
		(c.Tls || !c.Proved) &&
		(!needs || c.Tls && c.Proved)
}

func TestClientConstants(t *testing.T) {
	for i, step := range allSteps() {
		if step != i+1 {
			t.Error(i, step)
		}
	}
}

func TestClientOkAtEachStep(t *testing.T) {
	for _, step := range allSteps() {
		for _, c := range []impl.Client{openClient(step), sealedClient(step), provedClient(step), mustBe(provedClient(step))} {
			if !impl.ClientOk(c) {
				t.Error("not ok:", told(c))
			}
		}
	}
	for _, step := range []int{0, 11, -1, 12, -5, 15, 1 << 32, 5 + 1<<32, math.MinInt, math.MaxInt} {
		for _, c := range []impl.Client{openClient(step), sealedClient(step), provedClient(step), mustBe(provedClient(step))} {
			if impl.ClientOk(c) {
				t.Error("ok:", told(c))
			}
		}
	}
}

// Who must have a proof has one from ClMail on, up to ClDone.
func TestClientOkWithAProofThatMustBe(t *testing.T) {
	for _, step := range allSteps() {
		needs := step >= impl.ClMail && step <= impl.ClDone
		for _, c := range []impl.Client{openClient(step), sealedClient(step)} {
			if got := impl.ClientOk(mustBe(c)); got == needs {
				t.Error(got, told(mustBe(c)))
			}
		}
		if !impl.ClientOk(mustBe(provedClient(step))) {
			t.Error("not ok with a proof:", step)
		}
	}
}

func TestClientOkOfAProofWithoutASeal(t *testing.T) {
	for _, step := range allSteps() {
		for _, must := range []bool{false, true} {
			for _, x := range (terms{{}, share(atom(20), atom(40))}) {
				c := clientWith(openClient(step), func(c *impl.Client) { c.Must, c.Proved, c.Share = must, true, x })
				if impl.ClientOk(c) {
					t.Error("ok:", told(c))
				}
			}
		}
	}
}

// bases are clients that are ok, under seal and not.
func bases() []impl.Client {
	var list []impl.Client
	for _, step := range allSteps() {
		list = append(list, openClient(step), sealedClient(step), provedClient(step), mustBe(provedClient(step)))
	}
	return list
}

func TestClientOkOfHosts(t *testing.T) {
	for _, base := range bases() {
		for _, host := range goodHosts() {
			if c := clientWith(base, func(c *impl.Client) { c.Host = host }); !impl.ClientOk(c) {
				t.Error("not ok:", told(c))
			}
		}
		for _, host := range badHosts() {
			if c := clientWith(base, func(c *impl.Client) { c.Host = host }); impl.ClientOk(c) {
				t.Error("ok:", told(c))
			}
		}
	}
}

func TestClientOkOfNumbers(t *testing.T) {
	for name, put := range map[string]struct {
		most int
		turn func(c *impl.Client, n int)
	}{
		"eph":  {impl.MaxAtom, func(c *impl.Client, n int) { c.Eph = n }},
		"body": {impl.MaxAtom, func(c *impl.Client, n int) { c.Body = n }},
		"in":   {100, func(c *impl.Client, n int) { c.In = n }},
		"out":  {100, func(c *impl.Client, n int) { c.Out = n }},
	} {
		numbers := []int{0, 1, 2, 99, 100, 101, impl.MaxAtom - 1, impl.MaxAtom, impl.MaxAtom + 1, -1, -2, -100, -101, 1 << 32, -1 << 32, math.MinInt, math.MaxInt}
		for _, base := range bases() {
			for _, n := range numbers {
				c := clientWith(base, func(c *impl.Client) { put.turn(c, n) })
				if got := impl.ClientOk(c); got != (n >= 0 && n <= put.most) {
					t.Error(name, n, got)
				}
			}
		}
	}
}

func TestClientOkOfShares(t *testing.T) {
	for _, step := range allSteps() {
		for i, x := range append(goodTerms(), append(badTerms(), ring(), pub(ring()), tree(100000))...) {
			for _, base := range []impl.Client{sealedClient(step), provedClient(step), mustBe(provedClient(step))} {
				c := clientWith(base, func(c *impl.Client) { c.Share = x })
				if got := impl.ClientOk(c); got != impl.TermOk(x) {
					t.Error("under seal:", i, got, step)
				}
			}
			c := clientWith(openClient(step), func(c *impl.Client) { c.Share = x })
			if got := impl.ClientOk(c); got != isZero(x) {
				t.Error("not under seal:", i, got, step)
			}
		}
	}
	for i, x := range (terms{{N: 1}, {N: -1}, {S: "x"}, {S: "\x00"}, {Kids: make(terms, 1)}, {Kids: terms{atom(1)}}, {Op: -1}, {Op: 1}}) {
		if impl.ClientOk(clientWith(openClient(impl.ClGreet), func(c *impl.Client) { c.Share = x })) {
			t.Error("ok with a share that is not zero:", i)
		}
	}
	// An empty list and nil are the same value.
	for _, x := range (terms{{Kids: terms{}}, {Kids: make(terms, 0, 3)}}) {
		if !impl.ClientOk(clientWith(openClient(impl.ClGreet), func(c *impl.Client) { c.Share = x })) {
			t.Error("not ok with an empty list of kids")
		}
	}
}

// client is near to one that is ok.
func (d *dice) client() impl.Client {
	c := impl.Client{
		Step: d.below(12),
		Host: oneOf(d, "mx.a", "mx.a", "mx.a", "mx.a", "m2.a", "mx", ""),
		Must: d.below(2) == 0,
		Eph:  oneOf(d, 20, 20, 20, 0, impl.MaxAtom, 21, -1, impl.MaxAtom+1),
		Body: oneOf(d, 30, 30, 30, 0, impl.MaxAtom, 20, -1, impl.MaxAtom+1),
		In:   oneOf(d, 0, 0, 1, 2, 3, 99, 100, 101, -1),
		Out:  oneOf(d, 0, 1, 1, 2, 3, 99, 100, 101, -1),
	}
	if d.below(3) > 0 {
		c.Tls, c.Proved = true, d.below(3) > 0
		c.Share = oneOf(d, share(atom(20), atom(40)), share(atom(20), atom(40)), share(atom(20), atom(41)), atom(7), impl.Term{}, share(atom(40), atom(20)))
	}
	if d.below(20) == 0 {
		c.Proved = !c.Proved
	}
	if d.below(20) == 0 {
		c.Share = d.term(2)
	}
	return c
}

func TestClientOkByWord(t *testing.T) {
	d, ok := dice(91), 0
	for range 50000 {
		c := d.client()
		want := clientByWord(c)
		if impl.ClientOk(c) != want {
			t.Fatal(told(c))
		}
		if want {
			ok++
		}
	}
	if ok < 3000 {
		t.Error("the clients ask for too little:", ok)
	}
}

func TestClientNew(t *testing.T) {
	for _, host := range goodHosts() {
		for _, must := range []bool{false, true} {
			for _, eph := range []int{0, 1, 20, impl.MaxAtom} {
				for _, body := range []int{0, 1, 30, impl.MaxAtom} {
					got, done := impl.ClientNew(host, must, eph, body)
					want := impl.Client{Step: 1, Host: host, Must: must, Eph: eph, Body: body}
					if !done || !sameClient(got, want) || !impl.ClientOk(got) {
						t.Error(told(got), done)
					}
				}
			}
		}
	}
}

func TestClientNewOfWhatIsNotOk(t *testing.T) {
	none := func(host string, must bool, eph, body int) {
		if got, done := impl.ClientNew(host, must, eph, body); done || !sameClient(got, impl.Client{}) {
			t.Error(told(got), done)
		}
	}
	for _, must := range []bool{false, true} {
		for _, host := range badHosts() {
			none(host, must, 20, 30)
			none(host, must, -1, -1)
		}
		for _, n := range []int{-1, impl.MaxAtom + 1, -impl.MaxAtom, 1 << 32, -1 << 32, math.MinInt, math.MaxInt} {
			none("mx.a", must, n, 30)
			none("mx.a", must, 20, n)
			none("mx.a", must, n, n)
		}
	}
}
