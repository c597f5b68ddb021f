package tests

import (
	"math"
	"testing"

	"loop.example/g00328/impl"
)

// lineByWord is what the document says of ClientLine, of a term that is TermOk.
func lineByWord(c impl.Client, x impl.Term) (string, bool) {
	if !c.Tls {
		return x.S, x.Op == impl.TmText
	}
	if x.Op != impl.TmSeal || x.Kids[1].Op != impl.TmPair {
		return "", false
	}
	body := x.Kids[1].Kids[1]
	if body.Op != impl.TmText || order(x, sealedLine(c.Share, 2, c.In, body)) != 0 {
		return "", false
	}
	return body.S, true
}

// turn is what is heard at a step, what is said then, and which step is next.
type turn struct {
	step int
	line string
	says terms
	next int
}

// turnsOf are those of c that begin with a line; what is said is not yet sealed.
func turnsOf(c impl.Client) []turn {
	list := []turn{
		{1, "220", terms{text("ehlo")}, 2},
		{2, "250 starttls", terms{text("starttls")}, 3},
		{3, "220", terms{helloOf(atom(c.Eph))}, 4},
		{5, "250", terms{text("rcpt")}, 6},
		{6, "250", terms{text("data")}, 7},
		{7, "354", terms{pair(text("body"), atom(c.Body))}, 8},
		{8, "250", nil, 9},
	}
	if !c.Must {
		list = append(list, turn{2, "250", terms{text("mail")}, 5})
	}
	return list
}

// hearByWord is what the document says of ClientHear, told apart from the program.
func hearByWord(c impl.Client, x impl.Term, now int) (impl.Client, terms) {
	if !clientByWord(c) || !impl.TermOk(x) || c.Step == 9 || c.Step == 10 {
		return c, nil
	}
	line, heard := lineByWord(c, x)
	if heard && c.Tls {
		c.In = min(c.In+1, 100)
	}
	failed := c
	failed.Step = 10
	if c.Step == 4 {
		return replyHeardByWord(c, failed, x, now)
	}
	for _, turn := range turnsOf(c) {
		if !heard || turn.step != c.Step || turn.line != line {
			continue
		}
		c.Step = turn.next
		if turn.says == nil || turn.step == 3 || !c.Tls {
			return c, turn.says
		}
		if c.Out == 100 {
			return failed, nil
		}
		said := terms{sealedOrNone(c, turn.says[0])}
		c.Out++
		return c, said
	}
	return failed, nil
}

// sealedOrNone is what c says as x; zero, where there is no room for it in a term.
func sealedOrNone(c impl.Client, x impl.Term) impl.Term {
	if said := saidAs(c, x); impl.TermOk(said) {
		return said
	}
	return impl.Term{}
}

func replyHeardByWord(c, failed impl.Client, x impl.Term, now int) (impl.Client, terms) {
	four, read := replyByWord(atom(c.Eph), x)
	proved := read && provedByWord(question{e: atom(c.Eph), pub: four[0], cert: four[2], sign: four[3], host: c.Host, now: now})
	if !read || c.Must && !proved {
		return failed, nil
	}
	c.Tls, c.Share, c.Proved, c.Out, c.Step = true, four[1], proved, 2, 5
	return c, terms{doneOf(four[1]), sealedLine(four[1], 1, 1, text("mail"))}
}

// hears tells whether c, hearing x at that time, is want and says so.
func hears(t *testing.T, c impl.Client, x impl.Term, now int, want impl.Client, says ...impl.Term) {
	t.Helper()
	got, said := impl.ClientHear(c, x, now)
	if !sameClient(got, want) || !alike(said, says) {
		t.Errorf("%s, at %d, by %s: %s; says %s", told(c), now, shown(x), told(got), listed(said))
	}
}

func at(c impl.Client, step int) impl.Client {
	c.Step = step
	return c
}

// byLine is c at that step, behind a line: In is one more where it is under seal.
func byLine(c impl.Client, step int) impl.Client {
	c.Step = step
	if c.Tls {
		c.In = min(c.In+1, 100)
	}
	return c
}

// bySaying is c at that step, behind a line and what it says.
func bySaying(c impl.Client, step int) impl.Client {
	c = byLine(c, step)
	if c.Tls {
		c.Out++
	}
	return c
}

// standings are clients at that step that are ok, in every standing.
func standings(step int) []impl.Client {
	list := []impl.Client{openClient(step), sealedClient(step), provedClient(step), mustBe(provedClient(step))}
	if step < impl.ClMail || step == impl.ClFail {
		list = append(list, mustBe(openClient(step)), mustBe(sealedClient(step)))
	}
	return list
}

func TestHearGreet(t *testing.T) {
	for _, c := range standings(impl.ClGreet) {
		hears(t, c, heardAs(c, "220"), 0, bySaying(c, impl.ClEhlo), saidAs(c, text("ehlo")))
	}
}

func TestHearEhlo(t *testing.T) {
	for _, c := range standings(impl.ClEhlo) {
		hears(t, c, heardAs(c, "250 starttls"), 0, bySaying(c, impl.ClReady), saidAs(c, text("starttls")))
		if c.Must {
			hears(t, c, heardAs(c, "250"), 0, byLine(c, impl.ClFail))
		} else {
			hears(t, c, heardAs(c, "250"), 0, bySaying(c, impl.ClMail), saidAs(c, text("mail")))
		}
	}
}

// Hello is told as it is, even where there is a seal, and Out does not count it.
func TestHearReady(t *testing.T) {
	for _, c := range standings(impl.ClReady) {
		for _, eph := range []int{20, 0, 1, impl.MaxAtom} {
			for _, out := range []int{0, 5, 100} {
				c.Eph, c.Out = eph, out
				hears(t, c, heardAs(c, "220"), 0, byLine(c, impl.ClReply), helloOf(atom(eph)))
			}
		}
	}
}

func TestHearMailAndRcpt(t *testing.T) {
	for _, c := range standings(impl.ClMail) {
		hears(t, c, heardAs(c, "250"), 0, bySaying(c, impl.ClRcpt), saidAs(c, text("rcpt")))
	}
	for _, c := range standings(impl.ClRcpt) {
		hears(t, c, heardAs(c, "250"), 0, bySaying(c, impl.ClData), saidAs(c, text("data")))
	}
}

func TestHearData(t *testing.T) {
	for _, c := range standings(impl.ClData) {
		for _, body := range []int{30, 0, 1, 20, impl.MaxAtom} {
			c.Body = body
			hears(t, c, heardAs(c, "354"), 0, bySaying(c, impl.ClBody), saidAs(c, pair(text("body"), atom(body))))
		}
	}
}

// Nothing is said at the end: Out may be what it is.
func TestHearBody(t *testing.T) {
	for _, c := range standings(impl.ClBody) {
		for _, out := range []int{0, 5, 99, 100} {
			c.Out = out
			hears(t, c, heardAs(c, "250"), 0, byLine(c, impl.ClDone))
		}
	}
}

// linesAt are those that are told at a step.
func linesAt(c impl.Client) map[string]bool {
	lines := map[string]bool{}
	for _, turn := range turnsOf(c) {
		if turn.step == c.Step {
			lines[turn.line] = true
		}
	}
	return lines
}

// A line that was heard counts, though it is another one than is told.
func TestHearEveryOtherLine(t *testing.T) {
	for step := impl.ClGreet; step <= impl.ClBody; step++ {
		for _, c := range standings(step) {
			right := linesAt(c)
			for _, s := range oddLines() {
				if !right[s] {
					hears(t, c, heardAs(c, s), 0, byLine(c, impl.ClFail))
				}
			}
			if len(right) == 0 && step != impl.ClReply {
				t.Error("no line is told at", step)
			}
		}
	}
}

// notHeard are terms that are TermOk and no line that c hears.
func notHeard(c impl.Client) terms {
	list := terms{
		helloOf(atom(20)), helloOf(atom(40)), doneOf(share(atom(20), atom(40))),
		pair(text("220"), text("250")), hash(text("250")), pub(text("354")), sign(atom(1), text("250")), sign(atom(1), text("220")), seal(atom(1), text("250")),
	}
	for _, x := range goodTerms() {
		if x.Op != impl.TmText {
			list = append(list, x)
		}
	}
	if !c.Tls {
		return append(list, sealedLine(share(atom(20), atom(40)), 2, 0, text("220")), sealedLine(share(atom(20), atom(40)), 2, 0, text("250")))
	}
	for _, s := range []string{"220", "250", "354", "250 starttls"} {
		list = append(list,
			text(s), sealedLine(c.Share, 2, c.In, atom(250)), sealedLine(c.Share, 2, c.In, pair(text(s), text(s))), sealedLine(c.Share, 2, c.In, hash(text(s))),
			sealedLine(c.Share, 1, c.In, text(s)), sealedLine(c.Share, 0, c.In, text(s)), sealedLine(c.Share, 3, c.In, text(s)), sealedLine(c.Share, 1, c.Out, text(s)),
			sealedLine(c.Share, 2, c.In-1, text(s)), sealedLine(c.Share, 2, c.In+1, text(s)), sealedLine(c.Share, 2, c.Out, text(s)), sealedLine(c.Share, 2, 0, text(s)),
			sealedLine(share(atom(20), atom(41)), 2, c.In, text(s)), sealedLine(atom(20), 2, c.In, text(s)),
		)
	}
	return list
}

func TestHearWhatIsNoLine(t *testing.T) {
	for step := impl.ClGreet; step <= impl.ClBody; step++ {
		for _, c := range standings(step) {
			for _, x := range notHeard(c) {
				if !impl.TermOk(x) {
					t.Fatal("is not ok itself:", shown(x))
				}
				hears(t, c, x, 0, at(c, impl.ClFail))
			}
		}
	}
}

func TestHearOfAClientThatIsNotOk(t *testing.T) {
	for _, base := range bases() {
		for name, turn := range map[string]func(c *impl.Client){
			"step 0": func(c *impl.Client) { c.Step = 0 }, "step 11": func(c *impl.Client) { c.Step = 11 }, "step -1": func(c *impl.Client) { c.Step = -1 },
			"step least": func(c *impl.Client) { c.Step = math.MinInt }, "step most": func(c *impl.Client) { c.Step = math.MaxInt },
			"host": func(c *impl.Client) { c.Host = "mx" }, "no host": func(c *impl.Client) { c.Host = "" },
			"eph": func(c *impl.Client) { c.Eph = -1 }, "eph more": func(c *impl.Client) { c.Eph = impl.MaxAtom + 1 },
			"body": func(c *impl.Client) { c.Body = -1 }, "body more": func(c *impl.Client) { c.Body = impl.MaxAtom + 1 },
			"in": func(c *impl.Client) { c.In = -1 }, "in more": func(c *impl.Client) { c.In = 101 },
			"out": func(c *impl.Client) { c.Out = -1 }, "out more": func(c *impl.Client) { c.Out = 101 },
			"share": func(c *impl.Client) { c.Share = share(atom(40), atom(20)) }, "other tls": func(c *impl.Client) { c.Tls = !c.Tls },
			"share of 201": func(c *impl.Client) { c.Share = tree(201) }, "share of 400": func(c *impl.Client) { c.Share = tree(400) },
			"proved": func(c *impl.Client) { c.Tls, c.Share, c.Proved = false, impl.Term{}, true },
		} {
			c := clientWith(base, turn)
			if impl.ClientOk(c) {
				t.Fatal("is ok itself:", name, told(c))
			}
			for _, s := range []string{"220", "250", "250 starttls", "354"} {
				hears(t, c, heardAs(c, s), 0, c)
				hears(t, c, text(s), 0, c)
			}
			hears(t, c, rightReply(atom(40), atom(20), atom(10), someCert(atom(10))), 0, c)
			hears(t, c, impl.Term{}, 0, c)
		}
	}
}

// Who must have a proof and is at ClMail without one is not ok, and says nothing.
func TestHearOfAClientThatLacksItsProof(t *testing.T) {
	for step := impl.ClMail; step <= impl.ClDone; step++ {
		for _, c := range []impl.Client{mustBe(openClient(step)), mustBe(sealedClient(step))} {
			for _, s := range oddLines() {
				hears(t, c, heardAs(c, s), 0, c)
			}
		}
	}
}

func TestHearOfATermThatIsNotOk(t *testing.T) {
	said := rightReply(atom(40), atom(20), atom(10), someCert(atom(10)))
	for _, c := range bases() {
		list := append(badTerms(),
			impl.Term{Op: impl.TmText, N: 1, S: "220"}, impl.Term{Op: impl.TmText, N: -1, S: "250"}, impl.Term{Op: impl.TmText, S: "354", Kids: terms{atom(1)}}, impl.Term{S: "220"}, impl.Term{Op: 9, S: "250"},
			impl.Term{Op: impl.TmPair, N: 1, Kids: said.Kids}, term(impl.TmPair, said.Kids[0], said.Kids[1], atom(1)), ring(),
		)
		for _, x := range list {
			got, says := impl.ClientHear(c, x, 0)
			if !sameClient(got, c) || len(says) != 0 {
				t.Error(told(c), x.Op, told(got), len(says))
			}
		}
	}
}

func TestHearWhenItIsOver(t *testing.T) {
	for _, step := range []int{impl.ClDone, impl.ClFail} {
		for _, c := range standings(step) {
			for _, s := range oddLines() {
				hears(t, c, heardAs(c, s), 0, c)
				hears(t, c, text(s), 0, c)
			}
			for _, x := range notHeard(c) {
				hears(t, c, x, 0, c)
			}
			hears(t, c, rightReply(atom(40), atom(20), atom(10), someCert(atom(10))), 0, c)
		}
	}
}

// In is one more with each line that is heard under seal, 100 at most.
func TestHearCountsWhatCame(t *testing.T) {
	for in := 0; in <= 100; in++ {
		for _, turn := range turnsOf(impl.Client{Eph: 20, Body: 30}) {
			c := clientWith(provedClient(turn.step), func(c *impl.Client) { c.In = in })
			got, _ := impl.ClientHear(c, heardAs(c, turn.line), 0)
			if got.Step != turn.next || got.In != min(in+1, 100) || !impl.ClientOk(got) {
				t.Error("under seal:", turn.step, in, told(got))
			}
			open := clientWith(openClient(turn.step), func(c *impl.Client) { c.In = in })
			if got, _ := impl.ClientHear(open, text(turn.line), 0); got.Step != turn.next || got.In != in {
				t.Error("without a seal:", turn.step, in, told(got))
			}
		}
	}
}

// At 100 the number stays: what was said under it may be heard again.
func TestHearAtTheLastNumber(t *testing.T) {
	c := clientWith(provedClient(impl.ClMail), func(c *impl.Client) { c.In = 100 })
	line := heardAs(c, "250")
	c, _ = impl.ClientHear(c, line, 0)
	c, _ = impl.ClientHear(c, line, 0)
	if c.Step != impl.ClData || c.In != 100 {
		t.Error(told(c))
	}
}

// Where what is said would make Out more than 100, it is not said.
func TestHearCountsWhatWent(t *testing.T) {
	for out := 0; out <= 100; out++ {
		for _, turn := range turnsOf(impl.Client{Eph: 20, Body: 30}) {
			c := clientWith(provedClient(turn.step), func(c *impl.Client) { c.Out = out })
			got, said := impl.ClientHear(c, heardAs(c, turn.line), 0)
			seals := turn.step != impl.ClReady && turn.step != impl.ClBody
			switch {
			case !seals && (got.Out != out || got.Step != turn.next || !alike(said, turn.says)):
				t.Error("what is not sealed counts:", turn.step, out, told(got))
			case seals && out < 100 && (got.Out != out+1 || got.Step != turn.next || !alike(said, terms{saidAs(c, turn.says[0])})):
				t.Error("not said:", turn.step, out, told(got), listed(said))
			case seals && out == 100 && (got.Out != 100 || got.Step != impl.ClFail || len(said) != 0):
				t.Error("said:", turn.step, out, told(got), listed(said))
			}
			open := clientWith(openClient(turn.step), func(c *impl.Client) { c.Out = out })
			if got, said := impl.ClientHear(open, text(turn.line), 0); got.Out != out || got.Step != turn.next || !alike(said, turn.says) {
				t.Error("without a seal:", turn.step, out, told(got), listed(said))
			}
		}
	}
}

// A client that lost count has nothing to say, whatever else it has.
func TestHearAtTheLastOut(t *testing.T) {
	for _, step := range []int{impl.ClGreet, impl.ClEhlo, impl.ClMail, impl.ClRcpt, impl.ClData} {
		for _, c := range standings(step) {
			if !c.Tls {
				continue
			}
			c.Out = 100
			for s := range linesAt(c) {
				hears(t, c, heardAs(c, s), 0, byLine(c, impl.ClFail))
			}
		}
	}
}

// A share may be so great that there is no room for what is sealed by it.
func TestHearWithAGreatShare(t *testing.T) {
	for size := 185; size <= impl.MaxTerm; size++ {
		for step := impl.ClMail; step <= impl.ClBody; step++ {
			c := clientWith(provedClient(step), func(c *impl.Client) { c.Share = tree(size) })
			for s := range linesAt(c) {
				x := heardAs(c, s)
				want, says := hearByWord(c, x, 0)
				hears(t, c, x, 0, want, says...)
				if heard := want.Step != c.Step; heard != (size+7 <= impl.MaxTerm) {
					t.Error("a share of", size, "at", step, heard)
				}
			}
		}
	}
}

// The time is nothing to all but a reply.
func TestHearAtAnyTime(t *testing.T) {
	for _, now := range []int{0, 1, -1, 50, 51, impl.MaxTime, impl.MaxTime + 1, math.MinInt, math.MaxInt} {
		for _, turn := range turnsOf(impl.Client{Eph: 20, Body: 30}) {
			for _, c := range []impl.Client{openClient(turn.step), provedClient(turn.step)} {
				want, says := hearByWord(c, heardAs(c, turn.line), 0)
				hears(t, c, heardAs(c, turn.line), now, want, says...)
			}
		}
	}
}

// heard is a term that c may hear, right or not.
func (d *dice) heard(c impl.Client) impl.Term {
	line := text(oneOf(d, "220", "250", "250", "250 starttls", "354", "", "ehlo"))
	for _, turn := range turnsOf(c) {
		if turn.step == c.Step && d.below(2) == 0 {
			line = text(turn.line)
		}
	}
	switch d.below(8) {
	case 0:
		return d.term(3)
	case 1:
		return line
	case 2:
		return sealedLine(c.Share, 2, c.In, oneOf(d, line, atom(250), pair(line, line)))
	case 3:
		return sealedLine(oneOf(d, c.Share, share(atom(20), atom(40))), d.below(3), oneOf(d, c.In, c.In, c.Out, 0), line)
	case 4:
		return d.reply()
	}
	if c.Step == impl.ClReply {
		return d.reply()
	}
	return heardAs(c, line.S)
}

// reply is one to the secret 20, or near to it.
func (d *dice) reply() impl.Term {
	e, s, key := atom(20), atom(oneOf(d, 40, 40, 40, 20, 10)), atom(10)
	cert := certTerm(oneOf(d, atom(1), atom(1), atom(1), atom(1), atom(2)), text(oneOf(d, "mx.a", "mx.a", "mx.a", "mx.a", "m2.a")), pub(oneOf(d, key, key, key, key, atom(11))), text("50"))
	signed := oneOf(d, signedBoth(key, e, s), signedBoth(key, e, s), signedBoth(key, e, s), signedBoth(key, e, s), signedBoth(key, s, e), signedBoth(s, e, s), cert)
	number := func() impl.Term { return text(oneOf(d, "0", "0", "0", "0", "0", "0", "1")) }
	return sealedReply(text(oneOf(d, "reply", "reply", "reply", "reply", "hello")), oneOf(d, pub(s), pub(s), pub(s), pub(s), pub(e)), shareOf(s, e), number(), number(), pair(cert, signed))
}

func TestHearByWord(t *testing.T) {
	d := dice(92)
	steps, failed, stayed := map[int]int{}, 0, 0
	for range 100000 {
		c := d.client()
		x, now := d.heard(c), oneOf(&d, 0, 49, 50, 51, -1)
		want, says := hearByWord(c, x, now)
		got, said := impl.ClientHear(c, x, now)
		if !sameClient(got, want) || !alike(said, says) {
			t.Fatalf("%s, at %d, by %s: %s, not %s; says %s, not %s", told(c), now, shown(x), told(got), told(want), listed(said), listed(says))
		}
		if clientByWord(c) && !impl.ClientOk(got) {
			t.Fatal("is not ok any more:", told(c), told(got))
		}
		switch {
		case sameClient(want, c):
			stayed++
		case want.Step == impl.ClFail:
			failed++
		default:
			steps[c.Step]++
		}
	}
	for step := impl.ClGreet; step <= impl.ClBody; step++ {
		if steps[step] < 100 {
			t.Error("the terms ask for too little at", step, steps[step])
		}
	}
	if failed < 1000 || stayed < 1000 {
		t.Error("the terms ask for too little:", failed, stayed)
	}
}
