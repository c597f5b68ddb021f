package tests

import (
	"slices"
	"strings"
	"testing"

	"loop.example/g00328/impl"
)

func call(letter int, host string) impl.Deed {
	return impl.Deed{Kind: impl.DdCall, A: letter, S: host}
}

// callWorld has letters for domains by that name, all of which may be tried, and
// policies: one that is held, one that only tests, one that asks for nothing, and
// one that was held up to a time ahead of now.
func callWorld() impl.World {
	return worldWith(newWorld(), func(w *impl.World) {
		w.Time = 40
		w.Cache = []impl.Policy{
			{Domain: "held", Mode: impl.MdHold, Mx: []string{"*.a", "mx.b"}, Until: 40},
			{Domain: "none", Mode: impl.MdNone, Mx: []string{"*.a"}, Until: 90},
			{Domain: "over", Mode: impl.MdHold, Mx: []string{"*.a"}, Until: 39},
			{Domain: "test", Mode: impl.MdTest, Mx: []string{"*.a"}, Until: 90},
		}
		for i, domain := range []string{"held", "test", "none", "over", "free", "hel", "heldd"} {
			w.Letters = append(w.Letters, impl.Letter{Domain: domain, Body: 700 + i, State: impl.LtWait, Tries: i % 4, Next: 34 + i})
		}
		w.Letters[6].Next = 0
	})
}

// isCalled tells whether there is a call of that letter to that host behind it.
func isCalled(t *testing.T, w impl.World, letter int, host string, must bool) impl.World {
	t.Helper()
	return does(t, w, call(letter, host), func(v *impl.World) {
		l := w.Letters[letter]
		v.Calls = append(v.Calls, impl.Call{Letter: letter, Client: impl.Client{Step: impl.ClGreet, Host: host, Must: must, Eph: w.Fresh, Body: l.Body}})
		v.Letters[letter].Tries = l.Tries + 1
		v.Letters[letter].Next = min(w.Time+[]int{20, 40, 80, 160}[l.Tries], impl.MaxTime)
		v.Book += noteTextByWord(tryNote(letter, w.Time))
		v.Fresh++
	})
}

func TestCallText(t *testing.T) {
	w, _ := impl.WorldNew([]string{"mx.a"})
	w, _ = impl.Do(w, take("a"))
	w, _ = impl.Do(w, pass(7))
	w, code := impl.Do(w, call(0, "mx.a"))
	if code != 0 || w.Book != "take 0 a 1000\ntry 0 7\n" || w.Sure != 14 || w.Fresh != 1002 {
		t.Error(code, toldWorld(w))
	}
	want := impl.Call{Client: impl.Client{Step: 1, Host: "mx.a", Eph: 1001, Body: 1000}}
	if len(w.Calls) != 1 || !sameCall(w.Calls[0], want) || w.Letters[0] != (impl.Letter{Domain: "a", Body: 1000, State: 1, Tries: 1, Next: 27}) {
		t.Error(w.Calls, w.Letters)
	}
}

func TestCallByThePolicy(t *testing.T) {
	w := callWorld()
	isRight(t, "to call in", w)
	for letter := range w.Letters {
		must := letter == 0
		for _, host := range []string{"mx.a", "m2.a", "mx.b", "x.a"} {
			isCalled(t, w, letter, host, must)
		}
		for _, host := range []string{"m2.b", "x.mx.a", "a.b.c", sixtyBytes, "evil.e"} {
			if must {
				refuses(t, w, call(letter, host), impl.CdIdle)
			} else {
				isCalled(t, w, letter, host, false)
			}
		}
	}
	// Up to its end it is held, and no further.
	for until, must := range map[int]bool{39: false, 40: true, 41: true, 100000: true, 0: false} {
		w.Cache[0].Until = until
		isCalled(t, w, 0, "mx.b", must)
		if must {
			refuses(t, w, call(0, "m2.b"), impl.CdIdle)
		} else {
			isCalled(t, w, 0, "m2.b", false)
		}
	}
}

// Any host may be called, of the world or not; only what is no host is not.
func TestCallOfHosts(t *testing.T) {
	w := callWorld()
	for _, host := range goodHosts() {
		isCalled(t, w, 4, host, false)
	}
	for _, host := range badHosts() {
		for _, letter := range []int{0, 1, 4} {
			refuses(t, w, call(letter, host), impl.CdIdle)
		}
	}
	// A pattern is no host, though it is in the policy.
	refuses(t, w, call(0, "*.a"), impl.CdIdle)
}

func TestCallOfNoLetter(t *testing.T) {
	for _, w := range append(worlds(), newWorld(), callWorld()) {
		for _, letter := range append(farNumbers(), len(w.Letters), len(w.Letters)+1, 30, 31) {
			if letter < 0 || letter >= len(w.Letters) {
				refuses(t, w, call(letter, "mx.a"), impl.CdNone)
				refuses(t, w, call(letter, "no host"), impl.CdNone)
			}
		}
	}
	for count := range impl.MaxLetters + 1 {
		w := withLetters(newWorld(), count)
		for letter := range count {
			if _, code := asTheWord(t, w, call(letter, "mx.a")); code != impl.CdDone {
				t.Error(count, letter, code)
			}
		}
		refuses(t, w, call(count, "mx.a"), impl.CdNone)
		refuses(t, w, call(-1, "mx.a"), impl.CdNone)
	}
}

func TestCallOfLettersThatAreNotDue(t *testing.T) {
	for _, l := range letters() {
		for _, now := range []int{0, 49, 50, 51, impl.MaxTime - 20, impl.MaxTime} {
			w := worldWith(newWorld(), func(w *impl.World) { w.Time, w.Letters = now, []impl.Letter{l} })
			if l.State == impl.LtWait && l.Tries < impl.MaxTries && l.Next <= now {
				isCalled(t, w, 0, "mx.a", false)
			} else {
				refuses(t, w, call(0, "mx.a"), impl.CdIdle)
			}
		}
	}
	// Once more only when it is due again, and MaxTries times at most.
	w := withLetters(newWorld(), 1)
	for tries, pause := range []int{20, 40, 80, 160} {
		w = isCalled(t, w, 0, "mx.a", false)
		refuses(t, w, call(0, "mx.a"), impl.CdIdle)
		w, _ = impl.Do(w, pass(pause-1))
		refuses(t, w, call(0, "mx.a"), impl.CdIdle)
		if w, _ = impl.Do(w, pass(1)); tries == 3 {
			refuses(t, w, call(0, "mx.a"), impl.CdIdle)
		}
	}
	if len(w.Calls) != 4 || w.Letters[0].State != impl.LtBack {
		t.Error(toldWorld(w))
	}
}

func TestCallUpToAllCalls(t *testing.T) {
	for count := range impl.MaxTalks + 1 {
		w := worldWith(callWorld(), func(w *impl.World) {
			w.Calls = slices.Repeat([]impl.Call{{Letter: 1, Client: openClient(impl.ClDone)}}, count)
			// Talks have room of their own.
			w.Talks = slices.Repeat([]impl.Talk{{Server: openServer(impl.SvFail)}}, impl.MaxTalks)
		})
		if count == impl.MaxTalks {
			refuses(t, w, call(0, "mx.a"), impl.CdFull)
			refuses(t, w, call(0, "m2.b"), impl.CdIdle)
			refuses(t, w, call(7, "mx.a"), impl.CdNone)
		} else {
			isCalled(t, w, 0, "mx.a", true)
		}
	}
}

func TestCallUpToAFullBook(t *testing.T) {
	for _, letter := range []int{0, 9, 10, 29} {
		for _, now := range []int{0, 9, 10, 99999, 100000} {
			some := worldWith(withLetters(newWorld(), impl.MaxLetters), func(w *impl.World) { w.Time = now })
			note := noteTextByWord(tryNote(letter, now))
			for _, room := range []int{len(note) + 1, len(note), len(note) - 1, 1, 0} {
				w := withBook(some, impl.MaxNote-room)
				if room >= len(note) {
					isCalled(t, w, letter, "mx.a", false)
					continue
				}
				refuses(t, w, call(letter, "mx.a"), impl.CdFull)
				refuses(t, w, call(letter, "mx"), impl.CdIdle)
				refuses(t, w, call(30, "mx.a"), impl.CdNone)
			}
		}
	}
}

// What is noted of a try is not sure: it may be forgotten.
func TestCallIsNotSure(t *testing.T) {
	for _, sure := range []int{0, 5, 14} {
		w := worldWith(callWorld(), func(w *impl.World) { w.Book, w.Sure = "take 0 a 1000\n", sure })
		if got := isCalled(t, w, 0, "mx.a", true); got.Sure != sure || got.Book != "take 0 a 1000\ntry 0 40\n" {
			t.Error(got.Sure, got.Book)
		}
	}
}

func meet(host int) impl.Deed { return impl.Deed{Kind: impl.DdMeet, A: host} }

// isMet tells whether there is a talk of that host behind it.
func isMet(t *testing.T, w impl.World, host int) impl.World {
	t.Helper()
	return does(t, w, meet(host), func(v *impl.World) {
		h := w.Hosts[host]
		v.Talks = append(v.Talks, impl.Talk{Host: host, Server: impl.Server{Step: impl.SvLine, Host: h.Name, Key: h.Key, Eph: w.Fresh, Cert: lastingCert(h.Name, h.Key)}})
		v.Fresh++
		v.Known = partsByWord(append(v.Known, text("220")))
	})
}

func TestMeetEachHost(t *testing.T) {
	for _, w := range append(worlds()[:2], newWorld(), callWorld()) {
		for host := range w.Hosts {
			isMet(t, w, host)
		}
		for _, host := range append(farNumbers(), len(w.Hosts), len(w.Hosts)+1, 4, 5) {
			if host < 0 || host >= len(w.Hosts) {
				refuses(t, w, meet(host), impl.CdNone)
			}
		}
	}
	for _, key := range []int{0, 10, 999} {
		for _, lost := range []bool{false, true} {
			for _, name := range goodHosts()[:8] {
				w := worldWith(newWorld(), func(w *impl.World) { w.Hosts[1] = impl.Host{Name: name + "a", Key: key, Lost: lost} })
				if impl.WorldOk(w) {
					isMet(t, w, 1)
				}
			}
		}
	}
}

func TestMeetUpToAllTalks(t *testing.T) {
	for count := range impl.MaxTalks + 1 {
		w := worldWith(callWorld(), func(w *impl.World) {
			w.Talks = slices.Repeat([]impl.Talk{{Server: openServer(impl.SvFail)}}, count)
			w.Calls = slices.Repeat([]impl.Call{{Letter: 1, Client: openClient(impl.ClDone)}}, impl.MaxTalks)
		})
		if count == impl.MaxTalks {
			refuses(t, w, meet(0), impl.CdFull)
			refuses(t, w, meet(3), impl.CdNone)
			refuses(t, w, meet(-1), impl.CdNone)
		} else {
			isMet(t, w, 0)
		}
	}
}

// The greeting is learned behind what is known, once, as far as there is room; and
// with it is taken apart what was not yet.
func TestMeetIsHeard(t *testing.T) {
	w := newWorld()
	got := isMet(t, w, 0)
	if !alike(got.Known, append(w.Known, text("220"))) {
		t.Error(listed(got.Known))
	}
	if next := isMet(t, got, 0); !alike(next.Known, got.Known) || len(next.Talks) != 2 || next.Talks[1].Server.Eph != 1001 {
		t.Error(toldWorld(next))
	}
	for _, count := range []int{299, 300} {
		full := worldWith(w, func(w *impl.World) { w.Known = atoms(0, count) })
		if got := isMet(t, full, 0); len(got.Known) != 300 || within(got.Known, text("220")) != (count == 299) {
			t.Error(count, len(got.Known))
		}
	}
	whole := worldWith(w, func(w *impl.World) { w.Known = terms{pair(atom(7), atom(8))} })
	if got := isMet(t, whole, 0); !alike(got.Known, terms{pair(atom(7), atom(8)), text("220"), atom(7), atom(8)}) {
		t.Error(listed(got.Known))
	}
}

// A book that is full is nothing to a meeting, and S and T are not asked.
func TestMeetAsksForTheHostAlone(t *testing.T) {
	isMet(t, withBook(newWorld(), impl.MaxNote), 2)
	want, _ := impl.Do(newWorld(), meet(1))
	for _, s := range []string{"", "mx.b", "no host", strings.Repeat("x", 1000)} {
		for _, x := range (terms{{}, atom(3), ring()}) {
			if got, code := impl.Do(newWorld(), impl.Deed{Kind: impl.DdMeet, A: 1, S: s, T: x}); code != impl.CdDone || !sameWorld(got, want) {
				t.Error(s, code)
			}
		}
	}
	if got, code := impl.Do(callWorld(), impl.Deed{Kind: impl.DdCall, A: 1, S: "mx.b", T: ring()}); code != impl.CdDone || len(got.Calls) != 1 {
		t.Error("T was asked:", code)
	}
}
