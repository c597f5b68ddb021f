package tests

import (
	"math"
	"slices"
	"testing"

	"loop.example/g00328/impl"
)

func say(talk int, x impl.Term) impl.Deed { return impl.Deed{Kind: impl.DdSay, A: talk, T: x} }

// oneTalk is a world with that talk, of the second host; the share of a server is
// known in it, so that all that one may hear can be made.
func oneTalk(s impl.Server) impl.World {
	return worldWith(newWorld(), func(w *impl.World) {
		w.Time = 40
		w.Talks = []impl.Talk{{Host: 1, Server: s}}
		w.Known = append(w.Known, atom(20))
		if s.Share.Op != 0 {
			w.Known = append(w.Known, s.Share)
		}
	})
}

func TestSayAsTheServerHears(t *testing.T) {
	steps, failed := map[int]int{}, 0
	for _, s := range servers() {
		w := oneTalk(s)
		list := terms{helloOf(atom(20)), helloOf(atom(500)), doneOf(share(atom(20), atom(40))), pair(text("body"), atom(501)), sentTo(s, pair(text("body"), atom(501))), atom(500)}
		for _, line := range []string{"ehlo", "starttls", "mail", "rcpt", "data", "quit", "x", ""} {
			list = append(list, text(line), sentTo(s, text(line)))
		}
		for _, x := range list {
			if !impl.Made(w.Known, x) {
				refuses(t, w, say(0, x), impl.CdCannot)
				continue
			}
			if s.Step == impl.SvFail {
				refuses(t, w, say(0, x), impl.CdIdle)
				failed++
				continue
			}
			is, said := impl.ServerHear(s, x)
			steps[is.Step]++
			does(t, w, say(0, x), func(w *impl.World) {
				w.Talks[0].Server = is
				w.Known = partsByWord(append(w.Known, said...))
			})
		}
	}
	for _, step := range serverSteps() {
		if steps[step] == 0 {
			t.Error("none came to", step)
		}
	}
	if failed < 10 {
		t.Error("not asked of those that failed:", failed)
	}
}

func TestSayToTheTalkOfItsNumber(t *testing.T) {
	for count := range impl.MaxTalks + 1 {
		w := worldWith(oneTalk(openServer(impl.SvLine)), func(w *impl.World) { w.Talks = slices.Repeat(w.Talks, count) })
		for i := range count {
			does(t, w, say(i, text("data")), func(w *impl.World) {
				w.Talks[i].Server.Step = impl.SvBody
				w.Known = append(w.Known, text("354"))
			})
		}
		for _, i := range append(farNumbers(), count, count+1, 12, 13) {
			if i < 0 || i >= count {
				refuses(t, w, say(i, text("data")), impl.CdNone)
			}
		}
	}
}

// No talk comes first, then what can't be made, then one that failed.
func TestSayTellsTheFirstReason(t *testing.T) {
	unmade := terms{atom(10), atom(1), atom(40), pair(text("body"), atom(30)), seal(atom(10), text("x")), sign(atom(11), text("x")), hash(atom(10)), {}, {Op: 9}, ring(), tree(201)}
	for _, s := range servers() {
		w := oneTalk(s)
		for _, x := range unmade {
			refuses(t, w, say(0, x), impl.CdCannot)
			refuses(t, w, say(1, x), impl.CdNone)
			refuses(t, w, say(math.MinInt, x), impl.CdNone)
		}
		for _, x := range (terms{text("mail"), atom(500), pair(text("body"), atom(501)), helloOf(atom(500)), sign(atom(500), text("x"))}) {
			if s.Step == impl.SvFail {
				refuses(t, w, say(0, x), impl.CdIdle)
			} else if _, code := asTheWord(t, w, say(0, x)); code != impl.CdDone {
				t.Error(toldServer(s), shown(x), code)
			}
			refuses(t, w, say(1, x), impl.CdNone)
		}
	}
	refuses(t, bareWorld(), say(0, text("mail")), impl.CdNone)
}

// A letter that can be made is taken, and nothing else of the world turns: no letter
// of it, no call, nothing told.
func TestSayALetter(t *testing.T) {
	for _, s := range []impl.Server{openServer(impl.SvBody), sealedServer(impl.SvBody)} {
		w := worldWith(oneTalk(s), func(w *impl.World) {
			w.Letters = []impl.Letter{{Domain: "a", Body: 501, State: impl.LtWait}}
			w.Calls = []impl.Call{{Client: openClient(impl.ClBody)}}
		})
		is, said := withLetter(s, 501)
		does(t, w, say(0, sentTo(s, pair(text("body"), atom(501)))), func(w *impl.World) {
			w.Talks[0].Server = is
			w.Known = partsByWord(append(w.Known, said...))
		})
		refuses(t, w, say(0, sentTo(s, pair(text("body"), atom(1000)))), impl.CdCannot)
	}
}

// Of each host its own key signs, and its reply is opened by who greeted it.
func TestSayHelloToEachHost(t *testing.T) {
	w := newWorld()
	for host := range w.Hosts {
		w, _ = impl.Do(w, meet(host))
	}
	for host, name := range []string{"mx.a", "m2.a", "mx.b"} {
		k := &handing{t: t, world: w}
		k.do(say(host, text("starttls")))
		k.do(say(host, helloOf(atom(500))))
		both := share(atom(500), atom(1000+host))
		reply := rightReply(atom(1000+host), atom(500), atom(10+host), lastingCert(name, 10+host))
		if s := k.world.Talks[host].Server; s.Step != impl.SvDone || order(s.Share, both) != 0 || !within(k.world.Known, reply) {
			t.Error(name, toldServer(s), listed(k.world.Known))
		}
		if !within(k.world.Known, sign(atom(10+host), bothOf(pub(atom(500)), pub(atom(1000+host))))) || impl.Made(k.world.Known, atom(10+host)) {
			t.Error(name, listed(k.world.Known))
		}
		k.do(say(host, doneOf(both)))
		k.do(say(host, sealedLine(both, 1, 1, text("data"))))
		k.do(say(host, sealedLine(both, 1, 2, pair(text("body"), atom(501)))))
		if s := k.world.Talks[host].Server; !slices.Equal(s.Got, []int{501}) || !s.Tls {
			t.Error(name, toldServer(s))
		}
		refuses(t, k.world, say(host, pair(text("body"), atom(10+host))), impl.CdCannot)
	}
}

func TestSayIsHeard(t *testing.T) {
	s := openServer(impl.SvLine)
	for count := 298; count <= 300; count++ {
		w := worldWith(oneTalk(s), func(w *impl.World) { w.Known = atoms(2000, count) })
		if got, _ := asTheWord(t, w, say(0, text("mail"))); len(got.Known) != min(count+1, 300) || within(got.Known, text("250")) != (count < 300) {
			t.Error(count, len(got.Known))
		}
	}
	want, _ := impl.Do(oneTalk(s), say(0, text("mail")))
	for _, with := range []string{"", "mx.a", "\xff"} {
		d := say(0, text("mail"))
		d.S = with
		if got, code := impl.Do(oneTalk(s), d); code != impl.CdDone || !sameWorld(got, want) {
			t.Error("more than A and T was asked of the deed:", code)
		}
	}
	// What was not taken apart yet is so, where nothing is said, too.
	w := worldWith(oneTalk(s), func(w *impl.World) { w.Known = terms{pair(text("x"), text("y"))} })
	if got, _ := asTheWord(t, w, say(0, text("quit"))); !alike(got.Known, terms{pair(text("x"), text("y")), text("x"), text("y")}) {
		t.Error(listed(got.Known))
	}
}
