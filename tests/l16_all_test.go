package tests

import (
	"math"
	"slices"
	"testing"

	"loop.example/g00328/impl"
)

// allCarriedByWord is what the document says of CarryAll, told apart from the
// program.
func allCarriedByWord(w impl.World) impl.World {
	if !worldByWord(w) {
		return impl.World{}
	}
	for i := range w.Letters {
		if w.Letters[i].State == 1 {
			if host := firstByWord(w, w.Letters[i].Domain); host < len(w.Hosts) {
				k, _ := carryByWord(w, i, host)
				w = k.world
			}
		}
	}
	return w
}

// firstByWord is the number of the first host that is one for that domain; that
// behind the last one, where none is.
func firstByWord(w impl.World, domain string) int {
	at := 0
	for at < len(w.Hosts) {
		may := true
		for _, p := range w.Cache {
			if p.Domain == domain && p.Mode == 2 && p.Until >= w.Time {
				may = slices.ContainsFunc(p.Mx, func(mx string) bool { return fitsByWord(mx, w.Hosts[at].Name) })
			}
		}
		if may {
			break
		}
		at++
	}
	return at
}

// allCarried holds CarryAll against the document's word.
func allCarried(t *testing.T, w impl.World) impl.World {
	t.Helper()
	got, want := impl.CarryAll(w), allCarriedByWord(w)
	if !sameWorld(got, want) {
		t.Errorf("%s; wanted %s", toldWorld(got), toldWorld(want))
	}
	if worldByWord(w) != impl.WorldOk(got) {
		t.Errorf("not right any more: %s", toldWorld(got))
	}
	return got
}

// allStay tells whether w is answered as it was.
func allStay(t *testing.T, what string, w impl.World) {
	t.Helper()
	if got := allCarried(t, w); !sameWorld(got, w) {
		t.Errorf("%s: %s; it was %s", what, toldWorld(got), toldWorld(w))
	}
}

// carryOf is a letter, the host that it goes to, and whether that must prove itself.
type carryOf struct {
	letter, host int
	must         bool
}

// allGo tells whether those letters go to those hosts, in that order, field by field.
func allGo(t *testing.T, what string, w impl.World, list ...carryOf) impl.World {
	t.Helper()
	want := w
	for _, c := range list {
		want = takenBy(want, c.letter, c.host, c.must)
	}
	got := allCarried(t, w)
	if !sameWorld(got, want) {
		t.Errorf("%s: %s; wanted %s", what, toldWorld(got), toldWorld(want))
	}
	return got
}

func TestCarryAllText(t *testing.T) {
	w, _ := impl.WorldNew([]string{"mx.b", "mx.a"})
	w, _ = impl.DoAll(w, []impl.Deed{take("a"), take("b"), take("a"), asks(holding("a", "*.a"), 50)})
	got := allGo(t, "two to the second", w, carryOf{0, 1, true}, carryOf{1, 0, false}, carryOf{2, 1, true})
	if got.Book != "take 0 a 1000\ntake 1 b 1001\ntake 2 a 1002\ntry 0 0\ngone 0\ntry 1 0\ngone 1\ntry 2 0\ngone 2\n" || got.Sure != 42 || got.Fresh != 1009 || !slices.Equal(got.Told, []int{1001}) {
		t.Error(toldWorld(got))
	}
	// Behind that there is nothing to be carried.
	allStay(t, "once more", got)
}

func TestCarryAllInNoWorld(t *testing.T) {
	for what, w := range noWorlds() {
		if got := impl.CarryAll(w); !isNoWorld(got) {
			t.Error(what, toldWorld(got))
		}
	}
	for _, w := range oddWorlds() {
		if !worldByWord(w) && !isNoWorld(allCarried(t, w)) {
			t.Error(toldWorld(w))
		}
	}
	for _, w := range append(worlds(), callWorld()) {
		for what, p := range worldNumbers(w) {
			for _, n := range []int{p.least - 1, p.most + 1, math.MinInt, math.MaxInt} {
				if got := impl.CarryAll(worldWith(w, p.to(n))); !isNoWorld(got) {
					t.Error(what, n, toldWorld(got))
				}
			}
		}
	}
}

func TestCarryAllOfNoLetterAndNoHost(t *testing.T) {
	for _, w := range []impl.World{bareWorld(), newWorld(), worldWith(callWorld(), func(w *impl.World) { w.Letters = nil })} {
		allStay(t, "no letters", w)
	}
	allStay(t, "no hosts", worldWith(callWorld(), func(w *impl.World) { w.Hosts = nil }))
	allStay(t, "neither", worldWith(callWorld(), func(w *impl.World) { w.Letters, w.Hosts = nil, nil }))
	// An empty list and nil are the same value.
	allStay(t, "empty lists", impl.World{Fresh: 1000, Hosts: []impl.Host{}, Letters: []impl.Letter{}, Cache: []impl.Policy{}})
}

// By each policy to the first that may: one held to the last host, one that nobody
// may, and those that hold nothing, to the first of all.
func TestCarryAllByThePolicy(t *testing.T) {
	w := worldWith(callWorld(), func(w *impl.World) {
		w.Hosts = hostsNamed("m2.c", "m2.b", "mx.b", "mx.a")
		w.Cache[3] = holding("test", "*.d", "mx.c")
		w.Cache[3].Until = 90
	})
	w.Letters = slices.DeleteFunc(w.Letters, func(l impl.Letter) bool { return l.Domain == "hel" })
	got := allGo(t, "by the policy", w, carryOf{0, 2, true}, carryOf{2, 0, false}, carryOf{3, 0, false}, carryOf{4, 0, false}, carryOf{5, 0, false})
	if got.Letters[1] != w.Letters[1] || len(got.Calls) != 5 || !slices.Equal(got.Told, []int{702, 703, 704, 706}) {
		t.Error(toldWorld(got))
	}
	// Each pattern counts, and the hosts are gone through in their order.
	for at, mx := range map[int][]string{0: {"*.d", "*.c"}, 1: {"mx.a", "m2.b"}, 2: {"mx.a", "mx.b"}, 3: {"x.a", "mx.a"}} {
		w.Cache[0].Mx, w.Letters = mx, w.Letters[:1]
		allGo(t, "the first", w, carryOf{0, at, true})
	}
	w.Cache[0].Until = 39
	allGo(t, "held no more", w, carryOf{0, 0, false})
}

// To the first that may, and to no other one, where that one does not take it.
func TestCarryAllTriesNoOtherHost(t *testing.T) {
	for _, known := range []int{285, 290, 300} {
		// At the end of all time it might be tried again at once.
		for _, now := range []int{40, impl.MaxTime} {
			w := worldWith(callWorld(), func(w *impl.World) {
				w.Time, w.Cache[0].Until = now, now
				w.Known, w.Letters = atoms(2000, known), w.Letters[:1]
			})
			got := allCarried(t, w)
			if len(got.Calls) != 1 || len(got.Talks) != 1 || got.Talks[0].Host != 0 || got.Letters[0].State != impl.LtWait {
				t.Error(known, now, toldWorld(got))
			}
		}
	}
	// One that is lost takes it too.
	w := worldWith(callWorld(), func(w *impl.World) { w.Hosts[0].Lost, w.Letters = true, w.Letters[:1] })
	if got := allGo(t, "lost", w, carryOf{0, 0, true}); got.Calls[0].Good || !slices.Equal(got.Told, []int{700}) {
		t.Error(toldWorld(got))
	}
}

// Those that are over and those that are not due stay as they were, in whichever
// order they stand with those that go.
func TestCarryAllInEachOrder(t *testing.T) {
	t.Parallel()
	kinds := []impl.Letter{
		{Domain: "a", Body: 1, State: impl.LtWait},
		{Domain: "b", Body: 2, State: impl.LtWait, Tries: 3, Next: 40},
		{Domain: "c", Body: 3, State: impl.LtGone},
		{Domain: "d", Body: 4, State: impl.LtWait, Tries: 1, Next: 41},
		{Domain: "e", Body: 5, State: impl.LtBack, Tries: impl.MaxTries},
	}
	for _, order := range ordersOf(len(kinds)) {
		w := worldWith(newWorld(), func(w *impl.World) { w.Time = 40 })
		var going []carryOf
		for i, at := range order {
			w.Letters = append(w.Letters, kinds[at])
			if at < 2 {
				going = append(going, carryOf{i, 0, false})
			}
		}
		got := impl.CarryAll(w)
		want := w
		for _, c := range going {
			want = takenBy(want, c.letter, c.host, c.must)
		}
		if !sameWorld(got, want) {
			t.Fatal(order, toldWorld(got), toldWorld(want))
		}
	}
}

// ordersOf are all orders of so many numbers.
func ordersOf(count int) [][]int {
	if count == 0 {
		return [][]int{nil}
	}
	var all [][]int
	for _, order := range ordersOf(count - 1) {
		for at := range count {
			all = append(all, slices.Insert(slices.Clone(order), at, count-1))
		}
	}
	return all
}

// More letters than there is room for calls, or for talks: the first ones go.
func TestCarryAllUpToAllCalls(t *testing.T) {
	for _, calls := range []int{0, 5, 10, 12} {
		for _, talks := range []int{0, 3, 11, 12} {
			w := worldWith(withLetters(newWorld(), impl.MaxLetters), func(w *impl.World) {
				w.Fresh = 5000
				w.Calls = slices.Repeat([]impl.Call{{Letter: 1, Client: openClient(impl.ClGreet)}}, calls)
				w.Talks = slices.Repeat([]impl.Talk{{Host: 1, Server: openServer(impl.SvLine)}}, talks)
			})
			room := impl.MaxTalks - max(calls, talks)
			got := allCarried(t, w)
			if len(got.Calls) != calls+room || len(got.Talks) != talks+room {
				t.Error(calls, talks, toldWorld(got))
			}
			for i, l := range got.Letters {
				if i >= room && l != w.Letters[i] || i < room && (l.State != impl.LtGone || l.Tries != 1) {
					t.Error(calls, talks, i, l)
				}
			}
		}
	}
}

// Each that is carried takes of what the next one needs: of the book, of the secrets
// and of what can be known.
func TestCarryAllTakesFromTheNext(t *testing.T) {
	t.Parallel()
	w := worldWith(callWorld(), func(w *impl.World) { w.Letters = w.Letters[:5] })
	all := []carryOf{{0, 0, true}, {1, 0, false}, {2, 0, false}, {3, 0, false}, {4, 0, false}}
	allGo(t, "all of them", w, all...)
	// Each takes 9 bytes for its try and 7 for its end.
	for _, fit := range []int{0, 1, 2, 4, 5} {
		for _, more := range []int{0, 8} {
			allGo(t, "the book", withBook(w, impl.MaxNote-16*fit-more), all[:fit]...)
		}
		if got := allCarried(t, withBook(w, impl.MaxNote-16*fit-9)); fit < 5 && (len(got.Calls) != fit+1 || got.Letters[fit].State != impl.LtWait || got.Letters[fit].Tries == w.Letters[fit].Tries) {
			t.Error(fit, toldWorld(got))
		}
		for more := range 2 {
			allGo(t, "the secrets", worldWith(w, func(w *impl.World) { w.Fresh = 999990 - 2*fit - more }), all[:fit]...)
		}
	}
	// What the first ones said leaves no room for what the next ones say.
	for count := 201; count <= impl.MaxKnown; count += 11 {
		allCarried(t, worldWith(w, func(w *impl.World) { w.Known = atoms(2000, count) }))
	}
}

// The answer is Carry of each, one behind the other.
func TestCarryAllIsCarryOfEach(t *testing.T) {
	t.Parallel()
	d, calls := dice(162), map[int]int{}
	for range 100 {
		w := d.carryWorld()
		if d.below(2) == 0 {
			w.Letters, w.Calls, w.Talks = w.Letters[:min(len(w.Letters), 5)], nil, nil
		}
		got := allCarried(t, w)
		one := w
		for i, l := range w.Letters {
			if host := firstByWord(w, l.Domain); l.State == impl.LtWait && host < len(w.Hosts) {
				one, _ = impl.Carry(one, i, host)
			}
		}
		if !sameWorld(got, one) {
			t.Fatal(toldWorld(got), toldWorld(one))
		}
		for i, l := range w.Letters {
			if l.State != impl.LtWait && got.Letters[i] != l {
				t.Error("was over:", l, got.Letters[i])
			}
		}
		calls[len(got.Calls)-len(w.Calls)]++
	}
	if calls[0] < 10 || len(calls) < 5 {
		t.Error("the worlds ask for too little:", calls)
	}
}
