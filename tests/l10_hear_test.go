package tests

import (
	"math"
	"strings"
	"testing"

	"loop.example/g00328/impl"
)

// sentTo is the term that s hears as x.
func sentTo(s impl.Server, x impl.Term) impl.Term {
	if !s.Tls {
		return x
	}
	return sealedLine(s.Share, 1, s.In, x)
}

// sentBy is the term that s says as that line.
func sentBy(s impl.Server, line string) impl.Term {
	if !s.Tls {
		return text(line)
	}
	return sealedLine(s.Share, 2, s.Out, text(line))
}

// openedByWord is what s hears as x, which is TermOk, and whether that is anything.
func openedByWord(s impl.Server, x impl.Term) (impl.Term, bool) {
	if !s.Tls {
		return x, true
	}
	if x.Op != impl.TmSeal || x.Kids[1].Op != impl.TmPair {
		return impl.Term{}, false
	}
	body := x.Kids[1].Kids[1]
	return body, order(x, sealedLine(s.Share, 1, s.In, body)) == 0
}

// exchange is a line that a server hears at SvLine, what it says then, and which
// step is next.
type exchange struct {
	line string
	says []string
	next int
}

// exchangesOf are those of s at SvLine.
func exchangesOf(s impl.Server) []exchange {
	list := []exchange{
		{"mail", []string{"250"}, 1},
		{"rcpt", []string{"250"}, 1},
		{"data", []string{"354"}, 4},
		{"quit", nil, 1},
	}
	if s.Tls {
		return append(list, exchange{"ehlo", []string{"250"}, 1})
	}
	return append(list, exchange{"ehlo", []string{"250 starttls"}, 1}, exchange{"starttls", []string{"220"}, 2})
}

// failed is s at SvFail; without a seal it has no share there.
func failed(s impl.Server) impl.Server {
	s.Step = 5
	if !s.Tls {
		s.Share = impl.Term{}
	}
	return s
}

// counted is s behind what it heard: In is one more where it is under seal.
func counted(s impl.Server) impl.Server {
	if s.Tls {
		s.In = min(s.In+1, 100)
	}
	return s
}

// answering is s at that step behind what it heard and what it says.
func answering(s impl.Server, step int, says ...string) (impl.Server, terms) {
	var said terms
	made := counted(s)
	for _, line := range says {
		said = append(said, sentBy(s, line))
		if s.Tls {
			made.Out++
		}
	}
	made.Step = step
	return made, said
}

// takeByWord is what the document says of ServerHear, told apart from the program.
func takeByWord(s impl.Server, x impl.Term) (impl.Server, terms) {
	if !serverByWord(s) || !impl.TermOk(x) || s.Step == 5 {
		return s, nil
	}
	switch s.Step {
	case 2:
		return greetedByWord(s, x)
	case 3:
		if order(x, doneOf(s.Share)) != 0 {
			return failed(s), nil
		}
		s.Step, s.Tls, s.In, s.Out = 1, true, 1, 0
		return s, nil
	}
	heard, opened := openedByWord(s, x)
	if !opened {
		return failed(s), nil
	}
	if s.Step == 4 {
		return letterByWord(s, heard)
	}
	for _, e := range exchangesOf(s) {
		if order(heard, text(e.line)) != 0 {
			continue
		}
		if s.Tls && s.Out == 100 && e.says != nil {
			break
		}
		return answering(s, e.next, e.says...)
	}
	return failed(counted(s)), nil
}

func greetedByWord(s impl.Server, x impl.Term) (impl.Server, terms) {
	if x.Op != impl.TmPair || x.Kids[1].Op != impl.TmPub || order(x, helloOf(x.Kids[1].Kids[0])) != 0 {
		return failed(s), nil
	}
	other := x.Kids[1].Kids[0]
	reply := rightReply(atom(s.Eph), other, atom(s.Key), s.Cert)
	if !impl.TermOk(reply) {
		return failed(s), nil
	}
	s.Step, s.Share = 3, shareOf(atom(s.Eph), other)
	return s, terms{reply}
}

func letterByWord(s impl.Server, heard impl.Term) (impl.Server, terms) {
	right := heard.Op == impl.TmPair && order(heard.Kids[0], text("body")) == 0 && heard.Kids[1].Op == impl.TmAtom
	if !right || len(s.Got) == 20 || s.Tls && s.Out == 100 {
		return failed(counted(s)), nil
	}
	made, said := answering(s, 1, "250")
	made.Got = append(append([]int{}, s.Got...), heard.Kids[1].N)
	return made, said
}

// takes tells whether s, hearing x, is want and says so.
func takes(t *testing.T, s impl.Server, x impl.Term, want impl.Server, says ...impl.Term) {
	t.Helper()
	got, said := impl.ServerHear(s, x)
	if !sameServer(got, want) || !alike(said, says) {
		t.Errorf("%s, by %s: %s; says %s", toldServer(s), shown(x), toldServer(got), listed(said))
	}
}

// goesOn tells whether s, hearing that line, is at that step and says so.
func goesOn(t *testing.T, s impl.Server, line string, step int, says ...string) {
	t.Helper()
	want, said := answering(s, step, says...)
	takes(t, s, sentTo(s, text(line)), want, said...)
}

func TestTakeLineText(t *testing.T) {
	s, _ := impl.ServerNew("mx.a", 10, 40, 50)
	for line, want := range map[string]string{"ehlo": "<250 starttls>", "starttls": "<220>", "mail": "<250>", "rcpt": "<250>", "data": "<354>", "quit": ""} {
		got, said := impl.ServerHear(s, text(line))
		if listed(said) != want || got.Step == impl.SvFail {
			t.Error(line, listed(said), got.Step)
		}
	}
	key1, key2 := "hash(pair(share(20,40),<1>))", "hash(pair(share(20,40),<2>))"
	for line, want := range map[string]string{"ehlo": "<250>", "mail": "<250>", "rcpt": "<250>", "data": "<354>"} {
		x := sealedLine(share(atom(20), atom(40)), 1, 3, text(line))
		if impl.TermText(x) != "seal("+key1+",pair(<3>,<"+line+">))" {
			t.Fatal(shown(x))
		}
		got, said := impl.ServerHear(sealedServer(impl.SvLine), x)
		if listed(said) != "seal("+key2+",pair(<5>,"+want+"))" || got.In != 4 || got.Out != 6 {
			t.Error(line, listed(said), toldServer(got))
		}
	}
}

func TestTakeEhlo(t *testing.T) {
	goesOn(t, openServer(impl.SvLine), "ehlo", impl.SvLine, "250 starttls")
	goesOn(t, sealedServer(impl.SvLine), "ehlo", impl.SvLine, "250")
}

// There is no second seal within the first.
func TestTakeStarttls(t *testing.T) {
	goesOn(t, openServer(impl.SvLine), "starttls", impl.SvHello, "220")
	s := sealedServer(impl.SvLine)
	takes(t, s, sentTo(s, text("starttls")), failed(counted(s)))
	takes(t, s, text("starttls"), failed(s))
}

func TestTakeMailRcptAndData(t *testing.T) {
	for _, s := range []impl.Server{openServer(impl.SvLine), sealedServer(impl.SvLine)} {
		goesOn(t, s, "mail", impl.SvLine, "250")
		goesOn(t, s, "rcpt", impl.SvLine, "250")
		goesOn(t, s, "data", impl.SvBody, "354")
	}
}

// Nothing is said to quit: Out may be what it is.
func TestTakeQuit(t *testing.T) {
	for _, s := range []impl.Server{openServer(impl.SvLine), sealedServer(impl.SvLine)} {
		for _, out := range []int{0, 5, 99, 100} {
			s.Out = out
			goesOn(t, s, "quit", impl.SvLine)
		}
	}
}

// spoken are lines that a server is told, others near to them, and those that it
// says itself.
func spoken() []string {
	list := oddLines()
	for _, s := range []string{"ehlo", "starttls", "mail", "rcpt", "data", "quit", "body", "done"} {
		list = append(list, s+" ", " "+s, s+"\n", s+"\r\n", s+"\x00", "\x00"+s, strings.ToUpper(s), strings.ToUpper(s[:1])+s[1:], s+s, s+" "+s, s[1:], s[:len(s)-1], s+"s", "x"+s, s+" mx.a", "<"+s+">")
	}
	return append(list, "helo", "lhlo", "noop", "rset", "vrfy", "help", "auth", "mailrcpt", "mail\nrcpt", "starttls\nmail", "starttls\r\nmail", "datа", "ｍail")
}

func TestTakeEveryOtherLine(t *testing.T) {
	for _, s := range []impl.Server{openServer(impl.SvLine), sealedServer(impl.SvLine)} {
		right := map[string]bool{}
		for _, e := range exchangesOf(s) {
			right[e.line] = true
		}
		others := 0
		for _, line := range spoken() {
			if !right[line] {
				others++
				takes(t, s, sentTo(s, text(line)), failed(counted(s)))
			}
		}
		if others < 150 {
			t.Error("too few other lines:", others)
		}
	}
}

func TestTakeALineInTheOpenIsNotForASeal(t *testing.T) {
	for _, step := range []int{impl.SvLine, impl.SvBody} {
		s := sealedServer(step)
		for _, line := range spoken() {
			takes(t, s, text(line), failed(s))
		}
		takes(t, s, pair(text("body"), atom(30)), failed(s))
	}
}

// Without a seal nothing is opened.
func TestTakeASealedLineWithoutASeal(t *testing.T) {
	for _, step := range []int{impl.SvLine, impl.SvBody} {
		s := openServer(step)
		for in := range 5 {
			s.In = in
			for _, line := range []string{"ehlo", "starttls", "mail", "rcpt", "data", "quit"} {
				takes(t, s, sealedLine(share(atom(20), atom(40)), 1, in, text(line)), failed(s))
			}
			takes(t, s, sealedLine(share(atom(20), atom(40)), 1, in, pair(text("body"), atom(30))), failed(s))
		}
	}
}

// Only KeyOf 1 of its share and the number In open what it hears.
func TestTakeByItsKeyAndNumberAlone(t *testing.T) {
	for step, body := range map[int]impl.Term{impl.SvLine: text("mail"), impl.SvBody: pair(text("body"), atom(30))} {
		for in := range 12 {
			s := serverWith(sealedServer(step), func(s *impl.Server) { s.In = in })
			for key := -2; key <= 12; key++ {
				for number := -2; number <= 14; number++ {
					x := sealedLine(s.Share, key, number, body)
					want, says := takeByWord(s, x)
					if right := key == 1 && number == in; right == (want.Step == impl.SvFail) {
						t.Fatal(key, number, toldServer(want))
					}
					takes(t, s, x, want, says...)
				}
			}
		}
		s := sealedServer(step)
		for _, other := range append(shortTerms(), share(atom(20), atom(41)), share(atom(19), atom(40)), atom(20), atom(40), pub(atom(40)), hash(s.Share)) {
			takes(t, s, sealedLine(other, 1, s.In, body), failed(s))
		}
		numbered := pair(text("3"), body)
		for _, key := range (terms{s.Share, hash(s.Share), hash(pair(text("1"), s.Share)), hash(pair(s.Share, atom(1))), pair(s.Share, text("1")), hash(hash(pair(s.Share, text("1")))), hash(pair(s.Share, text("01")))}) {
			takes(t, s, seal(key, numbered), failed(s))
		}
		right := hash(pair(s.Share, text("1")))
		for _, x := range (terms{
			seal(right, body), seal(right, pair(body, text("3"))), seal(right, pair(atom(3), body)), seal(right, pair(text("03"), body)), seal(right, pair(text("+3"), body)), seal(right, pair(text(""), body)),
			seal(numbered, right), sign(right, numbered), pair(right, numbered), hash(sentTo(s, body)), pub(sentTo(s, body)), pair(sentTo(s, body), sentTo(s, body)), numbered,
		}) {
			takes(t, s, x, failed(s))
		}
		takes(t, s, sentTo(s, sentTo(s, body)), failed(counted(s)))
	}
}

// What is opened and is no line counts as heard, but is not told.
func TestTakeWhatIsNoLine(t *testing.T) {
	for _, s := range []impl.Server{openServer(impl.SvLine), sealedServer(impl.SvLine)} {
		for _, x := range append(shortTerms(), pair(text("mail"), text("mail")), hash(text("mail")), pub(text("mail")), pair(text("body"), atom(30)), helloOf(atom(20)), doneOf(share(atom(20), atom(40)))) {
			if x.Op != impl.TmText {
				takes(t, s, sentTo(s, x), failed(counted(s)))
			}
		}
		for _, x := range goodTerms() {
			if x.Op != impl.TmText {
				takes(t, s, x, failed(s))
			}
		}
	}
}

func TestTakeOfAServerThatIsNotOk(t *testing.T) {
	for _, base := range servers() {
		for name, turn := range map[string]func(s *impl.Server){
			"step 0": func(s *impl.Server) { s.Step = 0 }, "step 6": func(s *impl.Server) { s.Step = 6 }, "step -1": func(s *impl.Server) { s.Step = -1 },
			"step least": func(s *impl.Server) { s.Step = math.MinInt }, "step most": func(s *impl.Server) { s.Step = math.MaxInt },
			"host": func(s *impl.Server) { s.Host = "mx" }, "no host": func(s *impl.Server) { s.Host = "" },
			"key": func(s *impl.Server) { s.Key = -1 }, "key more": func(s *impl.Server) { s.Key = impl.MaxAtom + 1 },
			"eph": func(s *impl.Server) { s.Eph = -1 }, "eph more": func(s *impl.Server) { s.Eph = impl.MaxAtom + 1 },
			"got": func(s *impl.Server) { s.Got[1] = -1 }, "got more": func(s *impl.Server) { s.Got[2] = impl.MaxAtom + 1 }, "got 21": func(s *impl.Server) { s.Got = make([]int, 21) },
			"cert": func(s *impl.Server) { s.Cert = impl.Term{} }, "cert of 201": func(s *impl.Server) { s.Cert = tree(201) }, "cert of 400": func(s *impl.Server) { s.Cert = tree(400) },
			"in": func(s *impl.Server) { s.In = -1 }, "in more": func(s *impl.Server) { s.In = 101 },
			"out": func(s *impl.Server) { s.Out = -1 }, "out more": func(s *impl.Server) { s.Out = 101 },
			"share": func(s *impl.Server) { s.Share = share(atom(40), atom(20)) }, "share of 201": func(s *impl.Server) { s.Share = tree(201) },
			"no share": func(s *impl.Server) { s.Tls, s.Share = true, impl.Term{} },
		} {
			s := serverWith(base, turn)
			if impl.ServerOk(s) {
				t.Fatal("is ok itself:", name, toldServer(s))
			}
			for _, line := range []string{"ehlo", "starttls", "mail", "rcpt", "data", "quit", "x"} {
				takes(t, s, sentTo(s, text(line)), s)
				takes(t, s, text(line), s)
			}
			for _, x := range (terms{helloOf(atom(20)), doneOf(s.Share), pair(text("body"), atom(30)), sentTo(s, pair(text("body"), atom(30))), {}}) {
				takes(t, s, x, s)
			}
		}
	}
}

func TestTakeOfATermThatIsNotOk(t *testing.T) {
	both := share(atom(20), atom(40))
	list := append(badTerms(),
		impl.Term{Op: impl.TmText, N: 1, S: "mail"}, impl.Term{Op: impl.TmText, N: -1, S: "quit"}, impl.Term{Op: impl.TmText, S: "data", Kids: terms{atom(1)}}, impl.Term{S: "mail"}, impl.Term{Op: 9, S: "ehlo"},
		impl.Term{Op: impl.TmPair, N: 1, Kids: helloOf(atom(20)).Kids}, term(impl.TmPair, text("hello"), pub(atom(20)), atom(1)), pair(text("hello"), term(impl.TmPub, atom(1), atom(2))),
		impl.Term{Op: impl.TmSeal, N: 1, Kids: doneOf(both).Kids}, impl.Term{Op: impl.TmSeal, S: "s", Kids: doneOf(both).Kids},
		pair(text("body"), atom(-1)), pair(text("body"), atom(impl.MaxAtom+1)), impl.Term{Op: impl.TmPair, S: "s", Kids: terms{text("body"), atom(30)}}, term(impl.TmPair, text("body"), atom(30), atom(30)),
		sealedLine(both, 1, 3, pair(text("body"), atom(-1))), sealedLine(both, 1, 3, pair(text("body"), atom(impl.MaxAtom+1))), sealedLine(both, 1, 3, impl.Term{Op: impl.TmText, N: 1, S: "mail"}),
		ring(), pub(ring()),
	)
	for _, s := range servers() {
		for i, x := range list {
			got, says := impl.ServerHear(s, x)
			if !sameServer(got, s) || len(says) != 0 {
				t.Error(i, toldServer(s), toldServer(got), len(says))
			}
		}
	}
}

func TestTakeWhenItFailed(t *testing.T) {
	for _, s := range []impl.Server{openServer(impl.SvFail), sealedServer(impl.SvFail)} {
		for _, line := range spoken() {
			takes(t, s, sentTo(s, text(line)), s)
			takes(t, s, text(line), s)
		}
		for _, x := range append(goodTerms(), helloOf(atom(20)), doneOf(share(atom(20), atom(40))), pair(text("body"), atom(30)), sentTo(s, pair(text("body"), atom(30)))) {
			takes(t, s, x, s)
		}
	}
}

// In is one more with each line that is heard under seal, 100 at most.
func TestTakeCountsWhatCame(t *testing.T) {
	for in := 0; in <= 100; in++ {
		for _, base := range []impl.Server{openServer(impl.SvLine), sealedServer(impl.SvLine)} {
			s := serverWith(base, func(s *impl.Server) { s.In = in })
			want := in
			if s.Tls {
				want = min(in+1, 100)
			}
			for _, e := range exchangesOf(s) {
				got, _ := impl.ServerHear(s, sentTo(s, text(e.line)))
				if got.Step != e.next || got.In != want || !impl.ServerOk(got) {
					t.Error(e.line, in, toldServer(got))
				}
			}
			s.Step = impl.SvBody
			if got, _ := impl.ServerHear(s, sentTo(s, pair(text("body"), atom(30)))); got.Step != impl.SvLine || got.In != want {
				t.Error("body", in, toldServer(got))
			}
		}
	}
}

// At 100 the number stays: what was said under it may be heard again.
func TestTakeAtTheLastNumber(t *testing.T) {
	s := serverWith(sealedServer(impl.SvLine), func(s *impl.Server) { s.In = 100 })
	line := sentTo(s, text("mail"))
	for range 3 {
		s, _ = impl.ServerHear(s, line)
	}
	if s.Step != impl.SvLine || s.In != 100 || s.Out != 8 {
		t.Error(toldServer(s))
	}
}

// Where what is said would make Out more than 100, it is not said.
func TestTakeCountsWhatWent(t *testing.T) {
	for out := 0; out <= 100; out++ {
		for _, base := range []impl.Server{openServer(impl.SvLine), sealedServer(impl.SvLine)} {
			s := serverWith(base, func(s *impl.Server) { s.Out = out })
			for _, e := range exchangesOf(s) {
				if s.Tls && out == 100 && e.line != "quit" {
					takes(t, s, sentTo(s, text(e.line)), failed(counted(s)))
					continue
				}
				goesOn(t, s, e.line, e.next, e.says...)
			}
			// What it can't say that it took, it has not taken.
			s.Step = impl.SvBody
			got, said := impl.ServerHear(s, sentTo(s, pair(text("body"), atom(30))))
			if s.Tls && out == 100 {
				if got.Step != impl.SvFail || len(said) != 0 || len(got.Got) != 3 || got.Out != 100 {
					t.Error("taken:", toldServer(got), listed(said))
				}
				continue
			}
			if got.Step != impl.SvLine || len(got.Got) != 4 || !alike(said, terms{sentBy(s, "250")}) {
				t.Error("not taken:", toldServer(got), listed(said))
			}
		}
	}
}

// What is heard in another way than told leaves all else as it was.
func TestTakeFailsAlone(t *testing.T) {
	for _, base := range servers() {
		for _, n := range []int{0, 1, 57, 100} {
			s := serverWith(base, func(s *impl.Server) { s.In, s.Out = n, 100-n })
			if s.Step == impl.SvFail {
				continue
			}
			got, said := impl.ServerHear(s, text("none of all"))
			if !sameServer(got, failed(s)) || len(said) != 0 || !impl.ServerOk(got) {
				t.Error(toldServer(s), toldServer(got), listed(said))
			}
		}
	}
}

// A share may be so great that there is no room for what is sealed by it; where
// there is room for what is heard, there is for what is said.
func TestTakeWithAGreatShare(t *testing.T) {
	for size := 185; size <= impl.MaxTerm; size++ {
		s := serverWith(sealedServer(impl.SvLine), func(s *impl.Server) { s.Share = tree(size) })
		x := sentTo(s, text("mail"))
		want, says := takeByWord(s, x)
		takes(t, s, x, want, says...)
		if heard := len(says) == 1 && impl.TermOk(says[0]); heard != (size+7 <= impl.MaxTerm) {
			t.Error("a share of", size, heard)
		}
		s.Step = impl.SvBody
		x = sentTo(s, pair(text("body"), atom(30)))
		want, says = takeByWord(s, x)
		takes(t, s, x, want, says...)
		if heard := len(want.Got) == 4; heard != (size+9 <= impl.MaxTerm) {
			t.Error("a share of", size, heard)
		}
	}
}

// sent is a term that s may hear, right or not.
func (d *dice) sent(s impl.Server) impl.Term {
	line := text(oneOf(d, "ehlo", "starttls", "mail", "rcpt", "data", "quit", "done", "250", ""))
	letter := pair(text(oneOf(d, "body", "body", "body", "mail")), oneOf(d, atom(30), atom(0), atom(impl.MaxAtom), text("30")))
	greeting := pair(text(oneOf(d, "hello", "hello", "hello", "reply")), oneOf(d, pub(atom(20)), pub(atom(20)), pub(tree(30)), pub(tree(36)), pub(text("e")), atom(20)))
	body := oneOf(d, line, line, line, letter, greeting, atom(3))
	right := map[int]terms{1: {line, line, line, letter}, 2: {greeting}, 3: {text("done"), line}, 4: {letter, letter, letter, line}}[s.Step]
	if right != nil && d.below(2) == 0 {
		body = oneOf(d, right...)
	}
	switch d.below(8) {
	case 0:
		return d.term(3)
	case 1:
		return body
	case 2:
		return sealedLine(oneOf(d, s.Share, s.Share, share(atom(20), atom(40))), d.below(3), oneOf(d, s.In, s.In, s.Out, 0), body)
	case 3:
		return doneOf(oneOf(d, s.Share, s.Share, s.Share, share(atom(20), atom(40))))
	}
	switch s.Step {
	case impl.SvHello:
		return body
	case impl.SvDone:
		return sealedLine(s.Share, 1, 0, body)
	}
	return sentTo(s, body)
}

func TestTakeByWord(t *testing.T) {
	d := dice(102)
	steps, failures, stayed := map[int]int{}, map[int]int{}, 0
	for range 80000 {
		s := d.server()
		x := d.sent(s)
		want, says := takeByWord(s, x)
		got, said := impl.ServerHear(s, x)
		if !sameServer(got, want) || !alike(said, says) {
			t.Fatalf("%s, by %s: %s, not %s; says %s, not %s", toldServer(s), shown(x), toldServer(got), toldServer(want), listed(said), listed(says))
		}
		if serverByWord(s) && !impl.ServerOk(got) {
			t.Fatal("is not ok any more:", toldServer(s), toldServer(got))
		}
		switch {
		case sameServer(want, s):
			stayed++
		case want.Step == impl.SvFail:
			failures[s.Step]++
		default:
			steps[s.Step]++
		}
	}
	for step := impl.SvLine; step <= impl.SvBody; step++ {
		if steps[step] < 200 || failures[step] < 200 {
			t.Error("the terms ask for too little at", step, steps[step], failures[step])
		}
	}
	if stayed < 1000 {
		t.Error("the terms ask for too little:", stayed)
	}
}
