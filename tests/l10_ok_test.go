package tests

import (
	"fmt"
	"math"
	"slices"
	"strconv"
	"testing"

	"loop.example/g00328/impl"
)

// serverSteps are those of a server, in order.
func serverSteps() []int {
	return []int{impl.SvLine, impl.SvHello, impl.SvDone, impl.SvBody, impl.SvFail}
}

// openServer is at that step, not under seal; at SvDone it has a share.
func openServer(step int) impl.Server {
	s := impl.Server{Step: step, Host: "mx.a", Key: 10, Eph: 40, Cert: someCert(atom(10)), Got: []int{7, 5, 7}}
	if step == impl.SvDone {
		s.Share = share(atom(20), atom(40))
	}
	return s
}

func sealedServer(step int) impl.Server {
	s := openServer(step)
	s.Tls, s.Share, s.In, s.Out = true, share(atom(20), atom(40)), 3, 5
	return s
}

// servers are all that are ok of those.
func servers() []impl.Server {
	var list []impl.Server
	for _, step := range serverSteps() {
		list = append(list, openServer(step), sealedServer(step))
	}
	return list
}

// serverWith is s with one thing turned.
func serverWith(s impl.Server, turn func(s *impl.Server)) impl.Server {
	s.Got = slices.Clone(s.Got)
	turn(&s)
	return s
}

func sameServer(a, b impl.Server) bool {
	if order(a.Share, b.Share) != 0 || order(a.Cert, b.Cert) != 0 || !slices.Equal(a.Got, b.Got) {
		return false
	}
	return a.Step == b.Step && a.Host == b.Host && a.Key == b.Key && a.Eph == b.Eph && a.In == b.In && a.Out == b.Out && a.Tls == b.Tls
}

// toldServer is s as text, for what a test tells.
func toldServer(s impl.Server) string {
	return fmt.Sprintf("step %d of %.70q key %d eph %d cert %s share %s in %d out %d tls %v got %v", s.Step, s.Host, s.Key, s.Eph, shown(s.Cert), shown(s.Share), s.In, s.Out, s.Tls, s.Got)
}

// serverByWord is what the document says of ServerOk, told apart from the program.
func serverByWord(s impl.Server) bool {
	for _, n := range s.Got {
		if n < 0 || n > 1000000 {
			return false
		}
	}
	has := s.Tls || s.Step == 3
	return s.Step >= 1 && s.Step <= 5 && hostByWord(s.Host) && len(s.Got) <= 20 &&
		s.Key >= 0 && s.Key <= 1000000 && s.Eph >= 0 && s.Eph <= 1000000 &&
		impl.TermOk(s.Cert) && (has && impl.TermOk(s.Share) || !has && isZero(s.Share)) &&
		s.In >= 0 && s.In <= 100 && s.Out >= 0 && s.Out <= 100
}

func TestServerConstants(t *testing.T) {
	for i, step := range serverSteps() {
		if step != i+1 {
			t.Error(i, step)
		}
	}
}

func TestServerOkAtEachStep(t *testing.T) {
	for _, s := range servers() {
		if !impl.ServerOk(s) {
			t.Error("not ok:", toldServer(s))
		}
	}
	for _, step := range []int{0, 6, -1, 7, -3, 10, 1 << 32, 3 + 1<<32, math.MinInt, math.MaxInt} {
		for _, s := range servers() {
			s.Step = step
			if impl.ServerOk(s) {
				t.Error("ok:", toldServer(s))
			}
		}
	}
	if impl.ServerOk(impl.Server{}) {
		t.Error("the zero one is ok")
	}
}

func TestServerOkOfHosts(t *testing.T) {
	for _, s := range servers() {
		for _, host := range goodHosts() {
			if s.Host = host; !impl.ServerOk(s) {
				t.Error("not ok:", toldServer(s))
			}
		}
		for _, host := range badHosts() {
			if s.Host = host; impl.ServerOk(s) {
				t.Error("ok:", toldServer(s))
			}
		}
	}
}

func TestServerOkOfNumbers(t *testing.T) {
	for name, put := range map[string]struct {
		most int
		turn func(s *impl.Server, n int)
	}{
		"key":      {impl.MaxAtom, func(s *impl.Server, n int) { s.Key = n }},
		"eph":      {impl.MaxAtom, func(s *impl.Server, n int) { s.Eph = n }},
		"got":      {impl.MaxAtom, func(s *impl.Server, n int) { s.Got = []int{n} }},
		"got last": {impl.MaxAtom, func(s *impl.Server, n int) { s.Got = append(s.Got, n) }},
		"got mid":  {impl.MaxAtom, func(s *impl.Server, n int) { s.Got[1] = n }},
		"in":       {100, func(s *impl.Server, n int) { s.In = n }},
		"out":      {100, func(s *impl.Server, n int) { s.Out = n }},
	} {
		numbers := []int{0, 1, 2, 99, 100, 101, impl.MaxAtom - 1, impl.MaxAtom, impl.MaxAtom + 1, -1, -2, -100, -101, 1 << 32, -1 << 32, math.MinInt, math.MaxInt}
		for _, base := range servers() {
			for _, n := range numbers {
				s := serverWith(base, func(s *impl.Server) { put.turn(s, n) })
				if got := impl.ServerOk(s); got != (n >= 0 && n <= put.most) {
					t.Error(name, n, got)
				}
			}
		}
	}
}

func TestServerOkByHowManyItGot(t *testing.T) {
	for _, s := range servers() {
		for count := range 25 {
			s.Got = make([]int, count, count+5)
			if got := impl.ServerOk(s); got != (count <= 20) {
				t.Error(count, got)
			}
			// Each of them is asked, at whichever place.
			for i := range s.Got {
				s.Got[i] = impl.MaxAtom + 1
				if impl.ServerOk(s) {
					t.Error("ok with one that is no atom at", i, "of", count)
				}
				s.Got[i] = impl.MaxAtom
			}
		}
		for _, many := range []int{100, 1000, 100000} {
			if s.Got = make([]int, many); impl.ServerOk(s) {
				t.Error("ok with", many)
			}
		}
		// What lies behind the list is not of it.
		whole := make([]int, 30)
		for i := range whole {
			whole[i] = -1
		}
		if s.Got = whole[:0]; !impl.ServerOk(s) {
			t.Error("the spare room is asked")
		}
		if s.Got = nil; !impl.ServerOk(s) {
			t.Error("not ok with none")
		}
	}
}

func TestServerOkOfCerts(t *testing.T) {
	for _, s := range servers() {
		for i, x := range append(goodTerms(), append(badTerms(), ring(), pub(ring()), tree(100000))...) {
			s.Cert = x
			if got := impl.ServerOk(s); got != impl.TermOk(x) {
				t.Error(i, got, s.Step)
			}
		}
	}
}

func TestServerOkOfShares(t *testing.T) {
	for _, step := range serverSteps() {
		for i, x := range append(goodTerms(), append(badTerms(), ring(), pub(ring()), tree(100000))...) {
			sealed := serverWith(sealedServer(step), func(s *impl.Server) { s.Share = x })
			if got := impl.ServerOk(sealed); got != impl.TermOk(x) {
				t.Error("under seal:", i, got, step)
			}
			open := serverWith(openServer(step), func(s *impl.Server) { s.Share = x })
			want := isZero(x)
			if step == impl.SvDone {
				want = impl.TermOk(x)
			}
			if got := impl.ServerOk(open); got != want {
				t.Error("not under seal:", i, got, step)
			}
		}
	}
	for _, step := range []int{impl.SvLine, impl.SvHello, impl.SvBody, impl.SvFail} {
		for i, x := range (terms{{N: 1}, {N: -1}, {S: "x"}, {S: "\x00"}, {Kids: make(terms, 1)}, {Kids: terms{atom(1)}}, {Op: -1}, {Op: 1}}) {
			if impl.ServerOk(serverWith(openServer(step), func(s *impl.Server) { s.Share = x })) {
				t.Error("ok with a share that is not zero:", i, step)
			}
		}
		// An empty list and nil are the same value.
		for _, x := range (terms{{Kids: terms{}}, {Kids: make(terms, 0, 3)}}) {
			if !impl.ServerOk(serverWith(openServer(step), func(s *impl.Server) { s.Share = x })) {
				t.Error("not ok with an empty list of kids", step)
			}
		}
	}
}

// rightServer is ok, at any step.
func (d *dice) rightServer() impl.Server {
	s := oneOf(d, servers()...)
	s.In, s.Out, s.Eph = oneOf(d, 0, 1, 3, 99, 100), oneOf(d, 0, 1, 3, 99, 100), oneOf(d, 40, 40, 0, impl.MaxAtom)
	s.Got = make([]int, oneOf(d, 0, 1, 19, 20))
	return s
}

// server is ok, or near to that.
func (d *dice) server() impl.Server {
	if d.below(2) == 0 {
		return d.rightServer()
	}
	s := impl.Server{
		Step: d.below(7),
		Host: oneOf(d, "mx.a", "mx.a", "mx.a", "mx.a", "m2.a", "mx", ""),
		Key:  oneOf(d, 10, 10, 10, 10, 0, impl.MaxAtom, 11, -1, impl.MaxAtom+1),
		Eph:  oneOf(d, 40, 40, 40, 40, 0, impl.MaxAtom, 41, -1, impl.MaxAtom+1),
		Cert: oneOf(d, someCert(atom(10)), someCert(atom(10)), someCert(atom(11)), text("c"), tree(160), impl.Term{}),
		In:   oneOf(d, 0, 0, 1, 2, 3, 99, 100, 101, -1),
		Out:  oneOf(d, 0, 0, 1, 2, 3, 99, 100, 101, -1),
		Tls:  d.below(2) == 0,
	}
	for range oneOf(d, 0, 0, 1, 2, 19, 20, 20, 21) {
		s.Got = append(s.Got, oneOf(d, 30, 31, 0, impl.MaxAtom))
	}
	if len(s.Got) > 0 && d.below(10) == 0 {
		s.Got[d.below(len(s.Got))] = oneOf(d, -1, impl.MaxAtom+1)
	}
	if s.Tls || s.Step == impl.SvDone {
		s.Share = oneOf(d, share(atom(20), atom(40)), share(atom(20), atom(40)), share(atom(20), atom(41)), atom(7), impl.Term{}, share(atom(40), atom(20)))
	}
	if d.below(20) == 0 {
		s.Share = d.term(2)
	}
	return s
}

func TestServerOkByWord(t *testing.T) {
	d, ok := dice(101), 0
	for range 50000 {
		s := d.server()
		want := serverByWord(s)
		if impl.ServerOk(s) != want {
			t.Fatal(toldServer(s))
		}
		if want {
			ok++
		}
	}
	if ok < 3000 {
		t.Error("the servers ask for too little:", ok)
	}
}

func TestServerNewText(t *testing.T) {
	s, done := impl.ServerNew("mx.a", 10, 40, 50)
	if !done || impl.TermText(s.Cert) != "sign(1,pair(<mx.a>,pair(pub(10),<50>)))" {
		t.Error(toldServer(s), done)
	}
	if s.Step != impl.SvLine || s.Host != "mx.a" || s.Key != 10 || s.Eph != 40 || !isZero(s.Share) || s.In != 0 || s.Out != 0 || s.Tls || len(s.Got) != 0 {
		t.Error(toldServer(s))
	}
}

func TestServerNew(t *testing.T) {
	for _, host := range goodHosts() {
		for _, key := range []int{0, 1, 10, impl.MaxAtom} {
			for _, eph := range []int{0, 1, 10, 40, impl.MaxAtom} {
				for until, digits := range goodUntils() {
					got, done := impl.ServerNew(host, key, eph, until)
					cert := certTerm(atom(1), text(host), pub(atom(key)), text(digits))
					want := impl.Server{Step: 1, Host: host, Key: key, Eph: eph, Cert: cert}
					if !done || !sameServer(got, want) || !impl.ServerOk(got) {
						t.Error(toldServer(got), done)
					}
					if pub, good := impl.CertGood(got.Cert, host, until); !good || order(pub, impl.Pub(impl.Atom(key))) != 0 {
						t.Error("its certificate is not good:", toldServer(got))
					}
				}
			}
		}
	}
}

func TestServerNewOfWhatIsNotOk(t *testing.T) {
	none := func(host string, key, eph, until int) {
		if got, done := impl.ServerNew(host, key, eph, until); done || !sameServer(got, impl.Server{}) {
			t.Error(toldServer(got), done)
		}
	}
	for _, host := range badHosts() {
		none(host, 10, 40, 50)
		none(host, -1, -1, -1)
	}
	for _, n := range []int{-1, impl.MaxAtom + 1, -impl.MaxAtom, 1 << 32, -1 << 32, 10 + 1<<32, math.MinInt, math.MaxInt} {
		none("mx.a", n, 40, 50)
		none("mx.a", 10, n, 50)
		none("mx.a", n, n, 50)
		none("mx.a", n, n, n)
	}
	for _, until := range badUntils() {
		none("mx.a", 10, 40, until)
	}
	none("mx.a", 10, 40, impl.MaxTime+1)
	none("mx.a", 10, 40, -1)
}

func TestGreeting(t *testing.T) {
	for range 3 {
		got := impl.Greeting()
		if order(got, text("220")) != 0 || !impl.TermOk(got) {
			t.Error(shown(got))
		}
		if sharesTexts(got, impl.Greeting()) {
			t.Error("one greeting has the text of another")
		}
		// What is done with one is nothing to the next.
		got.S, got.Kids = "x", append(got.Kids, atom(1))
	}
	c, _ := impl.ClientNew("mx.a", true, 20, 30)
	if got, _ := impl.ClientHear(c, impl.Greeting(), 0); got.Step != impl.ClEhlo {
		t.Error("a client does not go on by it:", strconv.Itoa(got.Step))
	}
}
