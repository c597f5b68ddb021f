package tests

import (
	"slices"
	"testing"

	"loop.example/g00328/impl"
)

// meeting is a client and a server that hear each other, what each has yet to
// hear, and all that went over the wire.
type meeting struct {
	client   impl.Client
	server   impl.Server
	toClient terms
	toServer terms
	wire     terms
}

// newMeeting is of a host whose certificate is good up to 50.
func newMeeting(c impl.Client, key, eph int) *meeting {
	s, _ := impl.ServerNew("mx.a", key, eph, 50)
	return &meeting{client: c, server: s, toClient: terms{impl.Greeting()}, wire: terms{impl.Greeting()}}
}

// bringer is a client that must have a proof or not, with that secret and letter.
func bringer(must bool, eph, letter int) impl.Client {
	c, _ := impl.ClientNew("mx.a", must, eph, letter)
	return c
}

// clientHears and serverHears tell whether there was something to be heard.
func (m *meeting) clientHears(now int) bool {
	if len(m.toClient) == 0 {
		return false
	}
	var said terms
	m.client, said = impl.ClientHear(m.client, m.toClient[0], now)
	m.toClient = m.toClient[1:]
	m.toServer = append(m.toServer, said...)
	m.wire = append(m.wire, said...)
	return true
}

func (m *meeting) serverHears() bool {
	if len(m.toServer) == 0 {
		return false
	}
	m.tell(m.toServer[0])
	m.toServer = m.toServer[1:]
	return true
}

// tell tells the server x, whoever says it.
func (m *meeting) tell(x impl.Term) terms {
	var said terms
	m.server, said = impl.ServerHear(m.server, x)
	m.toClient = append(m.toClient, said...)
	m.wire = append(append(m.wire, x), said...)
	return said
}

// upTo lets them hear each other until that holds, or nothing is left to be heard.
func (m *meeting) upTo(now int, holds func() bool) bool {
	for !holds() {
		if !m.clientHears(now) && !m.serverHears() {
			return false
		}
	}
	return true
}

func (m *meeting) over() bool { return m.client.Step == impl.ClDone || m.client.Step == impl.ClFail }

func TestWhoHearsEachOtherComesToOneShare(t *testing.T) {
	secrets := []int{0, 1, 2, 10, 20, 40, 500, impl.MaxAtom - 1, impl.MaxAtom}
	for _, eph := range secrets {
		for _, own := range secrets {
			for _, key := range []int{0, 10, eph, own} {
				for _, must := range []bool{false, true} {
					m := newMeeting(bringer(must, eph, 30), key, own)
					if !m.upTo(50, m.over) || m.client.Step != impl.ClDone {
						t.Fatal(eph, own, key, told(m.client), toldServer(m.server))
					}
					both := shareOf(atom(eph), atom(own))
					if order(m.client.Share, both) != 0 || order(m.server.Share, both) != 0 {
						t.Error("not one share:", told(m.client), toldServer(m.server))
					}
					if !m.client.Tls || !m.client.Proved || !m.server.Tls || m.server.Step != impl.SvLine || !slices.Equal(m.server.Got, []int{30}) {
						t.Error("not taken:", told(m.client), toldServer(m.server))
					}
					if m.client.Out != 5 || m.server.In != 5 || m.server.Out != 4 || m.client.In != 4 {
						t.Error("not counted alike:", told(m.client), toldServer(m.server))
					}
				}
			}
		}
	}
}

// All of what goes over the wire, word by word.
func TestTheWire(t *testing.T) {
	m := newMeeting(bringer(true, 20, 30), 10, 40)
	m.upTo(0, m.over)
	both := share(atom(20), atom(40))
	if m.client.Step != impl.ClDone {
		t.Fatal(told(m.client))
	}
	want := terms{
		text("220"), text("ehlo"), text("250 starttls"), text("starttls"), text("220"), helloOf(atom(20)), rightReply(atom(40), atom(20), atom(10), someCert(atom(10))),
		doneOf(both), sealedLine(both, 1, 1, text("mail")), sealedLine(both, 2, 0, text("250")), sealedLine(both, 1, 2, text("rcpt")), sealedLine(both, 2, 1, text("250")),
		sealedLine(both, 1, 3, text("data")), sealedLine(both, 2, 2, text("354")), sealedLine(both, 1, 4, pair(text("body"), atom(30))), sealedLine(both, 2, 3, text("250")),
	}
	for i, x := range m.wire {
		if !within(want, x) {
			t.Error("more than that:", i, shown(x))
		}
	}
	for i, x := range want {
		if !within(m.wire, x) {
			t.Error("less than that:", i, shown(x))
		}
	}
	if impl.Can(append(outsider(), m.wire...), atom(30)) {
		t.Error("the letter is known")
	}
}

// Who has another certificate than the host's takes nothing of one who must have
// a proof.
func TestAServerWithoutAProof(t *testing.T) {
	for _, must := range []bool{false, true} {
		for _, turn := range []func(m *meeting){
			func(m *meeting) { m.server.Cert = text("c") },
			func(m *meeting) { m.server.Cert = someCert(atom(11)) },
			func(m *meeting) { m.server.Key = 11 },
			func(m *meeting) { m.server, _ = impl.ServerNew("m2.a", 10, 40, 50) },
			func(m *meeting) { m.server, _ = impl.ServerNew("mx.a", 10, 40, 49) },
		} {
			m := newMeeting(bringer(must, 20, 30), 10, 40)
			turn(m)
			m.upTo(50, m.over)
			if taken := len(m.server.Got) == 1; taken == must || m.client.Proved || m.client.Tls == must {
				t.Error(must, told(m.client), toldServer(m.server))
			}
		}
	}
}

// Where the outsider keeps it back that the server can seal, one who need not
// have a proof tells its letter in the open.
func TestALetterInTheOpen(t *testing.T) {
	m := newMeeting(bringer(false, 20, 30), 10, 40)
	m.upTo(0, func() bool { return len(m.toClient) > 0 && m.toClient[0].S == "250 starttls" })
	m.toClient[0].S = "250"
	m.upTo(0, m.over)
	if m.client.Step != impl.ClDone || m.server.Tls || !slices.Equal(m.server.Got, []int{30}) || !impl.Can(m.wire, atom(30)) {
		t.Error(told(m.client), toldServer(m.server))
	}
}

// between are what an outsider says ahead of the seal, to be heard behind it.
func between() terms {
	list := terms{pair(text("body"), atom(666)), pair(text("body"), text("x")), pair(text("mail"), text("rcpt")), atom(666), text("220"), text("250"), text("354"), text("250 starttls"), text("done"), text("hello"), text("mail\nrcpt\ndata\nbody")}
	for _, line := range []string{"ehlo", "starttls", "mail", "rcpt", "data", "quit", "body"} {
		list = append(list, text(line), sealedLine(share(atom(20), atom(500)), 1, 0, text(line)), sealedLine(share(atom(40), atom(500)), 1, 0, text(line)), sealedLine(atom(500), 1, 1, text(line)))
	}
	return list
}

// What is told between starttls and the seal is never heard as a line: it ends
// the talk, and neither it nor what comes behind it is taken or answered.
func TestWhatComesBetween(t *testing.T) {
	for _, step := range []int{impl.SvHello, impl.SvDone} {
		for _, x := range between() {
			m := newMeeting(bringer(true, 20, 30), 10, 40)
			if !m.upTo(0, func() bool { return m.server.Step == step }) || m.server.Tls {
				t.Fatal("does not come to", step)
			}
			was := m.server
			if said := m.tell(x); m.server.Step != impl.SvFail || m.server.Tls || len(m.server.Got) != 0 || len(said) != 0 || !sameServer(m.server, failed(was)) {
				t.Error("heard between:", step, shown(x), toldServer(m.server), listed(said))
			}
			for _, next := range append(between(), helloOf(atom(20)), doneOf(share(atom(20), atom(40))), pair(text("body"), atom(666))) {
				if said := m.tell(next); len(said) != 0 {
					t.Error("says something behind that:", shown(next), listed(said))
				}
			}
			if m.upTo(0, m.over); m.client.Step == impl.ClDone || len(m.server.Got) != 0 || m.server.Step != impl.SvFail {
				t.Error("goes on:", told(m.client), toldServer(m.server))
			}
		}
	}
}

// A whole letter told in one go behind starttls is not taken, before the seal or
// behind it.
func TestALetterBetweenIsNotTaken(t *testing.T) {
	lines := terms{text("mail"), text("rcpt"), text("data"), pair(text("body"), atom(666)), text("quit")}
	for _, step := range []int{impl.SvHello, impl.SvDone} {
		m := newMeeting(bringer(true, 20, 30), 10, 40)
		m.upTo(0, func() bool { return m.server.Step == step })
		m.toServer = append(lines, m.toServer...)
		m.upTo(0, m.over)
		for m.serverHears() {
		}
		if len(m.server.Got) != 0 || m.server.Tls || m.server.Step != impl.SvFail {
			t.Error(step, toldServer(m.server))
		}
	}
}

// What was begun in the open does not go on behind the seal: a letter's data is
// asked for anew there, and what was taken in the open stays.
func TestWhatWasBegunInTheOpen(t *testing.T) {
	s, _ := impl.ServerNew("mx.a", 10, 40, 50)
	for _, x := range (terms{text("ehlo"), text("mail"), text("rcpt"), text("data"), pair(text("body"), atom(29)), text("mail"), text("rcpt"), text("starttls"), helloOf(atom(20)), doneOf(share(atom(20), atom(40)))}) {
		s, _ = impl.ServerHear(s, x)
	}
	if s.Step != impl.SvLine || !s.Tls || !slices.Equal(s.Got, []int{29}) {
		t.Fatal(toldServer(s))
	}
	for _, x := range (terms{pair(text("body"), atom(30)), sentTo(s, pair(text("body"), atom(30)))}) {
		if got, said := impl.ServerHear(s, x); got.Step != impl.SvFail || len(got.Got) != 1 || len(said) != 0 {
			t.Error(toldServer(got), listed(said))
		}
	}
}

// Under seal, nothing that was heard before is heard again, of this talk or of
// another one.
func TestWhatIsSaidAgainIsNotTaken(t *testing.T) {
	other := newMeeting(bringer(true, 21, 31), 10, 41)
	other.upTo(0, other.over)
	m := newMeeting(bringer(true, 20, 30), 10, 40)
	for asked := 0; ; {
		if m.server.Tls {
			for _, x := range append(slices.Clone(m.wire), other.wire...) {
				if within(m.toServer, x) {
					continue
				}
				asked++
				if got, said := impl.ServerHear(m.server, x); got.Step != impl.SvFail || len(said) != 0 || len(got.Got) != len(m.server.Got) {
					t.Error("heard again:", shown(x), toldServer(got))
				}
			}
		}
		if !m.clientHears(0) && !m.serverHears() {
			if asked < 200 {
				t.Error("the talk asks for too little:", asked)
			}
			return
		}
	}
}

// injected is something that an outsider says with what it has: the secret 500,
// the letter 501, and what went over the wire.
func (d *dice) injected(m *meeting) impl.Term {
	own := shareOf(atom(500), atom(m.server.Eph))
	line := text(oneOf(d, "ehlo", "starttls", "mail", "rcpt", "data", "quit"))
	letter := pair(text("body"), atom(501))
	switch d.below(20) {
	case 0:
		return oneOf(d, m.wire...)
	case 1:
		return oneOf(d, line, letter)
	case 2:
		return oneOf(d, helloOf(atom(500)), doneOf(own))
	}
	switch {
	case m.server.Step == impl.SvBody && d.below(2) == 0:
		line = letter
	case m.server.Step == impl.SvHello:
		return helloOf(atom(500))
	case m.server.Step == impl.SvDone:
		return doneOf(own)
	case m.server.Step == impl.SvLine && d.below(2) == 0:
		line = oneOf(d, text("data"), text("starttls"))
	}
	if m.server.Tls {
		return sealedLine(own, 1, m.server.In, line)
	}
	return line
}

// Whatever an outsider says, behind the seal of a client nothing is taken but what
// that client says there.
func TestWhatAnOutsiderSays(t *testing.T) {
	d := dice(103)
	taken, own, open := 0, 0, 0
	for range 1000 {
		m := newMeeting(bringer(true, 20, 777777), 10, 40)
		m.wire = append(m.wire, outsider()...)
		both, mine := share(atom(20), atom(40)), share(atom(40), atom(500))
		seldom := oneOf(&d, 1, 2, 8, 40)
		for range 40 {
			was := m.server
			if d.below(seldom) == 0 {
				if x := d.injected(m); impl.Can(m.wire, x) {
					m.tell(x)
				}
			} else if !m.clientHears(0) {
				m.serverHears()
			}
			if m.server.Step == impl.SvFail && (len(m.server.Got) != len(was.Got)) {
				t.Fatal("taken by one who failed:", toldServer(m.server))
			}
			if len(m.server.Got) == len(was.Got) {
				continue
			}
			letter := m.server.Got[len(was.Got)]
			switch {
			case !m.server.Tls:
				open++
			case order(m.server.Share, mine) == 0:
				own++
			case order(m.server.Share, both) == 0 && letter == 777777:
				taken++
			default:
				t.Fatal("taken behind the seal:", letter, toldServer(m.server))
			}
		}
		if impl.Can(m.wire, atom(777777)) {
			t.Fatal("the letter is known:", told(m.client), toldServer(m.server))
		}
	}
	if taken < 100 || own < 20 || open < 50 {
		t.Error("the talks ask for too little:", taken, own, open)
	}
}
