package tests

import (
	"math"
	"slices"
	"testing"

	"loop.example/g00328/impl"
)

func tell(call int, x impl.Term) impl.Deed { return impl.Deed{Kind: impl.DdTell, A: call, T: x} }

func lose(host int) impl.Deed { return impl.Deed{Kind: impl.DdLose, A: host} }

// oneCall is a world with two letters that wait and a call of the second one, that
// client; the share of a client under seal is known in it, so that all that one
// may hear can be made.
func oneCall(c impl.Client) impl.World {
	return worldWith(newWorld(), func(w *impl.World) {
		w.Time = 40
		w.Letters = []impl.Letter{letterOf(impl.LtWait, 1, 50), letterOf(impl.LtWait, 2, 50)}
		w.Book, w.Sure = "take 0 a 30\ntake 1 a 30\n", 24
		w.Calls = []impl.Call{{Letter: 1, Client: c}}
		if c.Tls {
			w.Known = append(w.Known, c.Share)
		}
	})
}

// tellings are clients of each step in every standing, and what is told to them: a
// line of that step, one of another, and what is none.
func tellings(ask func(c impl.Client, x impl.Term)) {
	for _, step := range allSteps() {
		for _, c := range standings(step) {
			if !impl.ClientOk(c) {
				continue
			}
			for _, s := range []string{"220", "250", "250 starttls", "354", "x", ""} {
				ask(c, heardAs(c, s))
				ask(c, text(s))
			}
			ask(c, helloOf(atom(500)))
		}
	}
}

func TestTellAsTheClientHears(t *testing.T) {
	steps := map[int]int{}
	tellings(func(c impl.Client, x impl.Term) {
		w := oneCall(c)
		if c.Step == impl.ClDone || c.Step == impl.ClFail {
			refuses(t, w, tell(0, x), impl.CdIdle)
			return
		}
		is, said := impl.ClientHear(c, x, 40)
		steps[is.Step]++
		does(t, w, tell(0, x), func(w *impl.World) {
			w.Calls[0].Client = is
			w.Known = partsByWord(append(w.Known, said...))
			if is.Step == impl.ClBody {
				w.Told = []int{30}
			}
			if is.Step == impl.ClDone {
				w.Letters[1].State = impl.LtGone
				w.Book += "gone 1\n"
			}
		})
	})
	for _, step := range allSteps()[1:] {
		if steps[step] == 0 {
			t.Error("none came to", step)
		}
	}
}

func TestTellTheCallOfItsNumber(t *testing.T) {
	for count := range impl.MaxTalks + 1 {
		w := worldWith(oneCall(openClient(impl.ClGreet)), func(w *impl.World) { w.Calls = slices.Repeat(w.Calls, count) })
		for i := range count {
			does(t, w, tell(i, text("220")), func(w *impl.World) {
				w.Calls[i].Client.Step = impl.ClEhlo
				w.Known = append(w.Known, text("ehlo"))
			})
		}
		for _, i := range append(farNumbers(), count, count+1, 12, 13) {
			if i < 0 || i >= count {
				refuses(t, w, tell(i, text("220")), impl.CdNone)
			}
		}
	}
}

// No call comes first, then what can't be made, then a step that is over.
func TestTellTellsTheFirstReason(t *testing.T) {
	unmade := terms{atom(10), atom(1), atom(30), atom(999999), seal(atom(10), text("x")), sign(atom(10), text("x")), hash(atom(10)), pub(atom(999999)), {}, {Op: 9}, ring(), tree(201), text(string(make([]byte, 301)))}
	for _, step := range allSteps() {
		c := openClient(step)
		w := oneCall(c)
		over := step == impl.ClDone || step == impl.ClFail
		for _, x := range unmade {
			refuses(t, w, tell(0, x), impl.CdCannot)
			refuses(t, w, tell(1, x), impl.CdNone)
			refuses(t, w, tell(-1, x), impl.CdNone)
		}
		for _, x := range (terms{text("220"), atom(500), seal(atom(500), atom(501)), hash(pair(atom(500), text("x"))), pub(atom(10)), share(atom(10), atom(500)), pair(pub(atom(11)), lastingCert("mx.a", 10))}) {
			if over {
				refuses(t, w, tell(0, x), impl.CdIdle)
			} else if _, code := asTheWord(t, w, tell(0, x)); code != impl.CdDone {
				t.Error(step, shown(x), code)
			}
			refuses(t, w, tell(1, x), impl.CdNone)
		}
	}
	refuses(t, bareWorld(), tell(0, text("220")), impl.CdNone)
}

// Whoever does not know the share can't go on under seal; one who does can.
func TestTellUnderSeal(t *testing.T) {
	c := sealedClient(impl.ClMail)
	w := oneCall(c)
	w.Known = slices.DeleteFunc(w.Known, func(x impl.Term) bool { return x.Op == impl.TmShare })
	refuses(t, w, tell(0, heardAs(c, "250")), impl.CdCannot)
	for _, known := range []terms{{share(atom(20), atom(40))}, {atom(20), pub(atom(40))}, {atom(40), pub(atom(20))}, {heardAs(c, "250")}, {hash(pair(share(atom(20), atom(40)), text("2")))}} {
		if got, code := asTheWord(t, worldWith(w, func(w *impl.World) { w.Known = append(w.Known, known...) }), tell(0, heardAs(c, "250"))); code != impl.CdDone || got.Calls[0].Client.Step != impl.ClRcpt {
			t.Error(listed(known), code)
		}
	}
	// What would be known only when more is taken apart can't be said yet.
	refuses(t, worldWith(w, func(w *impl.World) { w.Known = append(w.Known, pair(share(atom(20), atom(40)), text("x"))) }), tell(0, heardAs(c, "250")), impl.CdCannot)
}

// handing is a call and a talk, and what each has said that the other has yet to
// hear.
type handing struct {
	t              *testing.T
	world          impl.World
	call, talk     int
	toCall, toTalk terms
}

func (k *handing) do(d impl.Deed) {
	k.t.Helper()
	next, code := asTheWord(k.t, k.world, d)
	if code != impl.CdDone {
		k.t.Errorf("%s: %d, %s", toldDeed(d), code, toldWorld(k.world))
	}
	k.world = next
}

// on hands one thing on, and tells whether there was one.
func (k *handing) on() bool {
	k.t.Helper()
	switch {
	case len(k.toCall) > 0:
		x := k.toCall[0]
		_, said := impl.ClientHear(k.client(), x, k.world.Time)
		k.toCall, k.toTalk = k.toCall[1:], append(k.toTalk, said...)
		k.do(tell(k.call, x))
	case len(k.toTalk) > 0:
		x := k.toTalk[0]
		_, said := impl.ServerHear(k.world.Talks[k.talk].Server, x)
		k.toTalk, k.toCall = k.toTalk[1:], append(k.toCall, said...)
		k.do(say(k.talk, x))
	default:
		return false
	}
	return true
}

func (k *handing) client() impl.Client { return k.world.Calls[k.call].Client }

// upTo hands on until the client is at that step, or as far as it goes.
func (k *handing) upTo(step int) *handing {
	k.t.Helper()
	for k.client().Step != step && !k.t.Failed() && k.on() {
	}
	if k.client().Step != step {
		k.t.Error("comes to", told(k.client()), "and not to", step)
	}
	return k
}

// called is a letter with the body 1000 that is to go to a host, held or not, with
// the secret 1001, and that host with the secret 1002.
func called(t *testing.T, held bool, host string) *handing {
	t.Helper()
	k := &handing{t: t, world: newWorld(), toCall: terms{text("220")}}
	k.do(take("a"))
	if held {
		k.do(asks(holding("a", "*.a", "*.e"), 50))
	}
	k.do(call(0, host))
	k.do(meet(max(0, namedByWord(k.world, host))))
	return k
}

// behind are Good and Told of a call at ClBody, and at ClDone.
func behind(t *testing.T, what string, k *handing, good bool, bodies ...int) {
	t.Helper()
	if was := k.world; len(was.Told) != 0 || was.Calls[k.call].Good && !k.client().Tls {
		t.Error(what, "told too soon:", was.Told)
	}
	k.upTo(impl.ClData)
	if k.world.Calls[k.call].Good != good || len(k.world.Told) != 0 {
		t.Error(what, "ahead of the body:", k.world.Calls[k.call].Good, k.world.Told)
	}
	for _, step := range []int{impl.ClBody, impl.ClDone} {
		k.upTo(step)
		if k.world.Calls[k.call].Good != good || !slices.Equal(k.world.Told, bodies) {
			t.Error(what, "at", step, k.world.Calls[k.call].Good, k.world.Told)
		}
	}
	if k.world.Letters[0].State != impl.LtGone || k.world.Book != "take 0 a 1000\ntry 0 0\ngone 0\n" || k.world.Sure != 14 {
		t.Error(what, "not gone:", k.world.Letters, k.world.Book, k.world.Sure)
	}
	if got := k.world.Talks[k.talk].Server.Got; !slices.Equal(got, []int{1000}) {
		t.Error(what, "not taken:", got)
	}
}

func TestALetterWithAProof(t *testing.T) {
	k := called(t, true, "mx.a")
	behind(t, "with a proof", k, true)
	if impl.Made(k.world.Known, atom(1000)) || !k.client().Proved {
		t.Error("known:", toldWorld(k.world))
	}
	k = called(t, true, "m2.a")
	behind(t, "of another host", k, true)
}

// Who need not have a proof is not Good, though there is one.
func TestALetterThatNeedsNoProof(t *testing.T) {
	for _, host := range []string{"mx.a", "mx.b"} {
		k := called(t, false, host)
		behind(t, "no need", k, false, 1000)
		if impl.Made(k.world.Known, atom(1000)) || !k.client().Proved {
			t.Error("known:", toldWorld(k.world))
		}
	}
	// In the open, where the outsider says that there is no seal.
	k := called(t, false, "mx.a")
	k.upTo(impl.ClEhlo).on()
	if k.toCall[0].S != "250 starttls" {
		t.Fatal(listed(k.toCall))
	}
	k.toCall[0].S = "250"
	behind(t, "in the open", k, false, 1000)
	if !impl.Made(k.world.Known, atom(1000)) || k.client().Tls {
		t.Error("not known:", toldWorld(k.world))
	}
}

// A host that is lost ahead of the share makes no call Good; one that is lost behind
// it leaves it so.
func TestALetterToALostHost(t *testing.T) {
	for _, step := range []int{impl.ClGreet, impl.ClEhlo, impl.ClReady, impl.ClReply, impl.ClMail, impl.ClRcpt, impl.ClData} {
		k := called(t, true, "mx.a").upTo(step)
		k.do(lose(0))
		behind(t, "lost", k, step >= impl.ClMail, map[bool][]int{false: {1000}}[step >= impl.ClMail]...)
		if impl.Made(k.world.Known, atom(1000)) {
			t.Error("known:", toldWorld(k.world))
		}
	}
	// Another host that is lost is nothing to it.
	k := called(t, true, "mx.a")
	k.do(lose(1))
	behind(t, "another one lost", k, true)
}

// The outsider has a host of its own, that proves itself, and that is none of the
// world's hosts.
func TestALetterToTheOutsider(t *testing.T) {
	k := called(t, true, "evil.e").upTo(impl.ClEhlo)
	k.do(tell(0, text("250 starttls")))
	k.do(tell(0, text("220")))
	k.do(tell(0, rightReply(atom(500), atom(1001), atom(501), lastingCert("evil.e", 501))))
	both := share(atom(500), atom(1001))
	if !impl.Made(k.world.Known, both) || k.world.Calls[0].Good || !k.client().Proved || !k.client().Must {
		t.Fatal(toldWorld(k.world))
	}
	for i, line := range []string{"250", "250", "354", "250"} {
		if k.world.Calls[0].Good || len(k.world.Told) != i/3 {
			t.Error(line, toldWorld(k.world))
		}
		k.do(tell(0, sealedLine(both, 2, i, text(line))))
	}
	if !slices.Equal(k.world.Told, []int{1000}) || !impl.Made(k.world.Known, atom(1000)) || k.world.Letters[0].State != impl.LtGone || k.world.Calls[0].Good {
		t.Error(toldWorld(k.world))
	}
}

// With the key of a host that is lost the outsider proves to be that host.
func TestALetterToWhoHasTheKey(t *testing.T) {
	for _, when := range []string{"lost", "not lost"} {
		k := called(t, true, "mx.a").upTo(impl.ClEhlo)
		k.do(tell(0, text("250 starttls")))
		k.do(tell(0, text("220")))
		reply := rightReply(atom(500), atom(1001), atom(10), lastingCert("mx.a", 10))
		if when == "not lost" {
			refuses(t, k.world, tell(0, reply), impl.CdCannot)
			continue
		}
		k.do(lose(0))
		k.do(tell(0, reply))
		if k.world.Calls[0].Good || !k.client().Proved || !impl.Made(k.world.Known, k.client().Share) {
			t.Error(toldWorld(k.world))
		}
	}
}

// Without a proof nobody who must have one goes on, and nothing is told.
func TestALetterWithoutAProof(t *testing.T) {
	for what, turn := range map[string]func(k *handing){
		"no seal":       func(k *handing) { k.upTo(impl.ClEhlo).do(tell(0, text("250"))) },
		"another host":  func(k *handing) { k.do(meet(1)); k.talk = 1 },
		"an outsider":   func(k *handing) { k.upTo(impl.ClReply).toTalk = nil },
		"a wrong reply": func(k *handing) { k.upTo(impl.ClReply).do(tell(0, text("reply"))) },
	} {
		k := called(t, true, "mx.a")
		turn(k)
		if k.client().Step == impl.ClReply {
			k.do(tell(0, rightReply(atom(500), atom(1001), atom(501), lastingCert("evil.e", 501))))
		}
		for k.client().Step != impl.ClFail && k.on() {
		}
		if w := k.world; k.client().Step != impl.ClFail || w.Calls[0].Good || len(w.Told) != 0 || impl.Made(w.Known, atom(1000)) || w.Letters[0].State != impl.LtWait || w.Book != "take 0 a 1000\ntry 0 0\n" {
			t.Error(what, toldWorld(k.world))
		}
		refuses(t, k.world, tell(0, text("250")), impl.CdIdle)
	}
}

// repliedWorld has a client at ClReply and the reply that it waits for.
func repliedWorld(c impl.Client) (impl.World, impl.Deed) {
	reply := rightReply(atom(40), atom(20), atom(10), lastingCert("mx.a", 10))
	w := oneCall(c)
	w.Known = append(w.Known, reply)
	return w, tell(0, reply)
}

// Each thing that makes a call Good, alone.
func TestWhatMakesACallGood(t *testing.T) {
	base := mustBe(openClient(impl.ClReply))
	for what, c := range map[string]struct {
		client impl.Client
		turn   func(w *impl.World)
		good   bool
	}{
		"all of it":               {base, func(w *impl.World) {}, true},
		"no need":                 {openClient(impl.ClReply), func(w *impl.World) {}, false},
		"sealed already":          {mustBe(sealedClient(impl.ClReply)), func(w *impl.World) {}, false},
		"good already":            {mustBe(sealedClient(impl.ClReply)), func(w *impl.World) { w.Calls[0].Good = true }, true},
		"good without need":       {openClient(impl.ClReply), func(w *impl.World) { w.Calls[0].Good = true }, true},
		"lost":                    {base, func(w *impl.World) { w.Hosts[0].Lost = true }, false},
		"others lost":             {base, func(w *impl.World) { w.Hosts[1].Lost, w.Hosts[2].Lost = true, true }, true},
		"no host of that name":    {base, func(w *impl.World) { w.Hosts = w.Hosts[1:] }, false},
		"no host at all":          {base, func(w *impl.World) { w.Hosts = nil }, false},
		"the last host":           {base, func(w *impl.World) { slices.Reverse(w.Hosts) }, true},
		"the last host, lost":     {base, func(w *impl.World) { w.Hosts[0].Lost = true; slices.Reverse(w.Hosts) }, false},
		"another key of the host": {base, func(w *impl.World) { w.Hosts[0].Key = 77 }, true},
		"up to its end":           {base, func(w *impl.World) { w.Time = impl.MaxTime }, true},
	} {
		w, d := repliedWorld(c.client)
		w = worldWith(w, c.turn)
		got, code := asTheWord(t, w, d)
		if code != impl.CdDone || got.Calls[0].Good != c.good || got.Calls[0].Client.Step != impl.ClMail || !got.Calls[0].Client.Proved || len(got.Told) != 0 {
			t.Error(what, code, got.Calls[0].Good, told(got.Calls[0].Client))
		}
	}
	// A reply of no proof makes none Good.
	w, _ := repliedWorld(openClient(impl.ClReply))
	w.Known = append(w.Known, pub(atom(20)))
	got, code := asTheWord(t, w, tell(0, rightReply(atom(500), atom(20), atom(501), lastingCert("evil.e", 501))))
	if code != impl.CdDone || got.Calls[0].Good || got.Calls[0].Client.Proved || !got.Calls[0].Client.Tls {
		t.Error(code, told(got.Calls[0].Client))
	}
}

// A call that fails, or that only goes on, stays Good or not as it was.
func TestGoodStaysAsItWas(t *testing.T) {
	tellings(func(c impl.Client, x impl.Term) {
		for _, good := range []bool{false, true} {
			w := worldWith(oneCall(c), func(w *impl.World) { w.Calls[0].Good = good })
			if got, _ := asTheWord(t, w, tell(0, x)); got.Calls[0].Good != good {
				t.Error(good, told(c), shown(x))
			}
		}
	})
}

// A body is told in its place, once, and only where the call is not Good.
func TestBodiesThatAreTold(t *testing.T) {
	for _, c := range []impl.Client{openClient(impl.ClData), sealedClient(impl.ClData), provedClient(impl.ClData), mustBe(provedClient(impl.ClData))} {
		for body, want := range map[int][]int{
			0: {0, 5, 7, 30, 31, 1000}, 4: {4, 5, 7, 30, 31, 1000}, 5: {5, 7, 30, 31, 1000}, 6: {5, 6, 7, 30, 31, 1000}, 30: {5, 7, 30, 31, 1000}, 31: {5, 7, 30, 31, 1000},
			999: {5, 7, 30, 31, 999, 1000}, 1000: {5, 7, 30, 31, 1000}, 1001: {5, 7, 30, 31, 1000, 1001}, impl.MaxAtom: {5, 7, 30, 31, 1000, impl.MaxAtom},
		} {
			for _, good := range []bool{false, true} {
				w := worldWith(oneCall(c), func(w *impl.World) {
					w.Told = []int{5, 7, 30, 31, 1000}
					w.Calls[0].Good, w.Calls[0].Client.Body = good, body
				})
				got, code := asTheWord(t, w, tell(0, heardAs(c, "354")))
				if good {
					want = w.Told
				}
				if code != impl.CdDone || got.Calls[0].Client.Step != impl.ClBody || !slices.Equal(got.Told, want) {
					t.Error(body, good, code, got.Told)
				}
			}
		}
		// One that fails there tells nothing.
		for _, s := range []string{"250", "x"} {
			if got, code := asTheWord(t, oneCall(c), tell(0, heardAs(c, s))); code != impl.CdDone || got.Calls[0].Client.Step != impl.ClFail || len(got.Told) != 0 {
				t.Error(s, code, got.Told)
			}
		}
		// Nor does one that was told ahead of this.
		at := at(c, impl.ClBody)
		if got, code := asTheWord(t, oneCall(at), tell(0, heardAs(at, "250"))); code != impl.CdDone || got.Calls[0].Client.Step != impl.ClDone || len(got.Told) != 0 {
			t.Error(code, got.Told)
		}
	}
}

// A letter that waits is gone then, and noted; one that is over is not.
func TestLettersThatAreGone(t *testing.T) {
	for _, c := range []impl.Client{openClient(impl.ClBody), sealedClient(impl.ClBody), mustBe(provedClient(impl.ClBody))} {
		for _, l := range letters() {
			for _, letter := range []int{0, 9, 10, 29} {
				w := worldWith(withLetters(oneCall(c), impl.MaxLetters), func(w *impl.World) {
					w.Letters[letter] = l
					w.Calls = []impl.Call{{Letter: letter, Client: c}}
				})
				does(t, w, tell(0, heardAs(c, "250")), func(w *impl.World) {
					w.Calls[0].Client = byLine(c, impl.ClDone)
					if l.State == impl.LtWait {
						w.Letters[letter].State = impl.LtGone
						w.Book += noteTextByWord(goneNote(letter))
					}
				})
				does(t, w, tell(0, heardAs(c, "354")), func(w *impl.World) { w.Calls[0].Client = byLine(c, impl.ClFail) })
			}
		}
	}
}

// Where its note does not fit it is not gone, and the call is as it was.
func TestLettersThatAreGoneUpToAFullBook(t *testing.T) {
	c := openClient(impl.ClBody)
	for _, letter := range []int{0, 9, 10, 29} {
		some := worldWith(withLetters(oneCall(c), impl.MaxLetters), func(w *impl.World) { w.Calls = []impl.Call{{Letter: letter, Client: c}} })
		note := noteTextByWord(goneNote(letter))
		for _, room := range []int{len(note) + 1, len(note), len(note) - 1, 1, 0} {
			w := withBook(some, impl.MaxNote-room)
			if room < len(note) {
				refuses(t, w, tell(0, text("250")), impl.CdFull)
			} else {
				does(t, w, tell(0, text("250")), func(w *impl.World) {
					w.Calls[0].Client.Step = impl.ClDone
					w.Letters[letter].State = impl.LtGone
					w.Book += note
				})
			}
			// What can't be made is told first, and one that is over needs no note.
			refuses(t, w, tell(0, atom(10)), impl.CdCannot)
			refuses(t, w, tell(1, text("250")), impl.CdNone)
			does(t, w, tell(0, text("354")), func(w *impl.World) { w.Calls[0].Client.Step = impl.ClFail })
			w.Letters[letter].State = impl.LtBack
			does(t, w, tell(0, text("250")), func(w *impl.World) { w.Calls[0].Client.Step = impl.ClDone })
			w.Letters[letter].State = impl.LtWait
		}
	}
}

// Two calls of one letter: the first that is done makes it gone, the second goes on
// to its end, and it is noted once.
func TestTwoCallsOfOneLetter(t *testing.T) {
	k := called(t, false, "mx.a")
	k.do(pass(20))
	k.do(call(0, "mx.b"))
	k.do(meet(2))
	behindOne := &handing{t: t, world: k.world, call: 1, talk: 1, toCall: terms{text("220")}}
	behindOne.upTo(impl.ClDone)
	k.world = behindOne.world
	k.upTo(impl.ClDone)
	if k.world.Book != "take 0 a 1000\ntry 0 0\ntry 0 20\ngone 0\n" || !slices.Equal(k.world.Told, []int{1000}) {
		t.Error(k.world.Book, k.world.Told)
	}
}

// Nothing but A and T is asked of the deed; and the proof is asked at the time of
// the world.
func TestTellAtTheTimeOfTheWorld(t *testing.T) {
	reply := rightReply(atom(40), atom(20), atom(10), someCert(atom(10)))
	for _, now := range []int{0, 49, 50, 51, impl.MaxTime} {
		for _, s := range []string{"", "mx.a", "\xff"} {
			w := worldWith(oneCall(mustBe(openClient(impl.ClReply))), func(w *impl.World) { w.Time, w.Known = now, append(w.Known, reply) })
			d := tell(0, reply)
			d.S = s
			if got, code := asTheWord(t, w, d); code != impl.CdDone || got.Calls[0].Good != (now <= 50) || got.Calls[0].Client.Proved != (now <= 50) {
				t.Error(now, code, told(got.Calls[0].Client))
			}
		}
	}
	refuses(t, oneCall(openClient(impl.ClGreet)), tell(math.MaxInt, text("220")), impl.CdNone)
}

// What is told is learned behind what is known, taken apart, as far as there is room.
func TestTellIsHeard(t *testing.T) {
	c := openClient(impl.ClData)
	for count := 296; count <= 300; count++ {
		w := worldWith(oneCall(c), func(w *impl.World) { w.Known = atoms(2000, count) })
		all := slices.Concat(w.Known, terms{pair(text("body"), atom(30)), text("body"), atom(30)})
		if got, _ := asTheWord(t, w, tell(0, text("354"))); !alike(got.Known, all[:min(len(all), 300)]) {
			t.Error(count, len(got.Known), listed(got.Known[290:]))
		}
	}
	w := worldWith(oneCall(openClient(impl.ClReady)), func(w *impl.World) { w.Known = nil })
	if got, _ := asTheWord(t, w, tell(0, text("220"))); !alike(got.Known, terms{helloOf(atom(20)), text("hello"), pub(atom(20))}) {
		t.Error(listed(got.Known))
	}
	// What was told, which needs no learning, is not told again by that.
	if got, _ := asTheWord(t, w, tell(0, hash(text("x")))); len(got.Known) != 0 {
		t.Error(listed(got.Known))
	}
	// What was not taken apart yet is so, where nothing is said, too.
	w.Known = terms{pair(text("x"), text("y"))}
	if got, _ := asTheWord(t, w, tell(0, text("x"))); !alike(got.Known, terms{pair(text("x"), text("y")), text("x"), text("y")}) {
		t.Error(listed(got.Known))
	}
}
