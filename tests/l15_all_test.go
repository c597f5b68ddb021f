package tests

import (
	"math"
	"slices"
	"strings"
	"testing"

	"loop.example/g00328/impl"
)

func TestJudgesOfNewWorlds(t *testing.T) {
	for _, names := range [][]string{nil, {"mx.a"}, {"mx.a", "m2.a", "mx.b"}, {"a.a", "b.b", "c.c", "d.d"}, {"evil.e"}} {
		w, done := impl.WorldNew(names)
		if !done {
			t.Fatal(names)
		}
		asJudged(t, "new", w, just())
	}
	asJudged(t, "bare", bareWorld(), just())
	asJudged(t, "all of it right", justWorld(), just())
}

// An empty list and nil are the same value.
func TestJudgesOfEmptyLists(t *testing.T) {
	w := impl.World{Fresh: 1000, Known: terms{}, Cache: []impl.Policy{}, Hosts: []impl.Host{}, Letters: []impl.Letter{}, Calls: []impl.Call{}, Talks: []impl.Talk{}, Told: []int{}}
	asJudged(t, "empty lists", w, just())
	asJudged(t, "no letters, as a list", worldWith(newWorld(), func(w *impl.World) { w.Letters, w.Book = []impl.Letter{}, "gone 3\n" }), just())
}

// What is no world is judged so, whatever else is right of it.
func TestJudgesOfNoWorld(t *testing.T) {
	asJudged(t, "zero", impl.World{}, unjust())
	for _, w := range []impl.World{justWorld(), bareWorld(), newWorld()} {
		for what, p := range worldNumbers(w) {
			for _, n := range append(farNumbers(), p.least-1, p.most+1, p.most+2) {
				if n < p.least || n > p.most {
					asJudged(t, what, worldWith(w, p.to(n)), unjust())
				}
			}
		}
	}
	for what, turn := range map[string]func(w *impl.World){
		"a term that is none":      func(w *impl.World) { w.Known[len(w.Known)-1] = impl.Term{Op: 9} },
		"too much known":           func(w *impl.World) { w.Known = atoms(2000, 301) },
		"a policy that is none":    func(w *impl.World) { w.Cache = []impl.Policy{{Domain: "A"}} },
		"two hosts of one name":    func(w *impl.World) { w.Hosts[1].Name = w.Hosts[0].Name },
		"a name that is none":      func(w *impl.World) { w.Hosts[2].Name = "mx" },
		"too many hosts":           func(w *impl.World) { w.Hosts = hostsNamed("a.a", "b.b", "c.c", "d.d", "e.e") },
		"a letter that is none":    func(w *impl.World) { w.Letters[2].Domain = "" },
		"too many letters":         func(w *impl.World) { w.Letters = slices.Repeat(w.Letters, 11) },
		"too great a book":         func(w *impl.World) { w.Book = strings.Repeat("back 29\n", 1501) },
		"too much is sure":         func(w *impl.World) { w.Sure = len(w.Book) + 1 },
		"a call of no letter":      func(w *impl.World) { w.Calls[3].Letter = 3 },
		"a client that is none":    func(w *impl.World) { w.Calls[3].Client.Host = "" },
		"too many calls":           func(w *impl.World) { w.Calls = slices.Repeat(w.Calls[:1], 13) },
		"a talk of no host":        func(w *impl.World) { w.Talks[1].Host = -1 },
		"a server that is none":    func(w *impl.World) { w.Talks[0].Server.Key = -1 },
		"a server that got much":   func(w *impl.World) { w.Talks[1].Server.Got = slices.Repeat([]int{1000}, 21) },
		"too many talks":           func(w *impl.World) { w.Talks = slices.Repeat(w.Talks[1:], 13) },
		"told twice":               func(w *impl.World) { w.Told = []int{1001, 1001} },
		"told in another order":    func(w *impl.World) { w.Told = []int{1001, 1000} },
		"a must that goes on open": func(w *impl.World) { w.Calls[1].Client.Must = true },
	} {
		asJudged(t, what, worldWith(justWorld(), turn), unjust())
	}
	for _, w := range oddWorlds() {
		if !worldByWord(w) {
			asJudged(t, "odd", w, unjust())
		}
	}
}

// Just where all four are right all is: each of them alone may be wrong.
func TestJudgeAllAsksEach(t *testing.T) {
	for what, wrong := range wrongs() {
		w := worldWith(justWorld(), wrong.turn)
		isRight(t, what, w)
		asJudged(t, what, w, wrong.want)
	}
	// Two of them at once.
	all, pairs := wrongs(), map[verdict]int{}
	for one, a := range all {
		for two, b := range all {
			if both := worldWith(worldWith(justWorld(), a.turn), func(w *impl.World) {
				if one != two && len(w.Talks) == 2 {
					b.turn(w)
				}
			}); impl.WorldOk(both) {
				pairs[byWord(t, one+" and "+two, both)]++
			}
		}
	}
	if len(pairs) < 10 {
		t.Error("the worlds ask for too little:", pairs)
	}
}

// Where the wrong thing stands, is nothing to it: the first, one between, the last.
func TestJudgesOfManyOfEach(t *testing.T) {
	var notes []impl.Note
	for i := range impl.MaxLetters {
		notes = append(notes, takeNote(i, "a", 2000+i))
	}
	w := worldWith(justWorld(), func(w *impl.World) {
		w.Letters, w.Book, w.Sure = impl.Play(notes), journal(notes...), 0
		w.Calls, w.Talks, w.Told = nil, nil, nil
		for i := range impl.MaxTalks {
			w.Calls = append(w.Calls, impl.Call{Letter: i, Client: withBody(mustBe(provedClient(impl.ClDone)), 2000+i), Good: true})
			w.Talks = append(w.Talks, impl.Talk{Server: thatGot(openServer(impl.SvLine), 2011-i)})
		}
	})
	asJudged(t, "many", w, just())
	for i := range impl.MaxLetters {
		asJudged(t, "one known", worldWith(w, func(w *impl.World) { w.Known = append(w.Known, atom(2000+i)) }), verdict{held: true, taken: true, book: true})
		asJudged(t, "one told", worldWith(w, func(w *impl.World) { w.Known, w.Told = append(w.Known, atom(2000+i)), []int{2000 + i} }), just())
		asJudged(t, "one turned", worldWith(w, func(w *impl.World) { w.Letters[i].State = impl.LtBack }), verdict{secret: true, held: true, taken: true})
	}
	for i := range impl.MaxTalks {
		asJudged(t, "one without need", worldWith(w, func(w *impl.World) { w.Calls[i].Client.Must = false }), verdict{secret: true, taken: true, book: true})
		asJudged(t, "one not taken", worldWith(w, func(w *impl.World) { w.Talks[i].Server.Got = nil }), verdict{secret: true, held: true, book: true})
	}
}

// Whatever is done, all is right: the outsider's own deeds, hosts that it has later,
// falls.
func TestWhateverIsDoneIsRight(t *testing.T) {
	d := dice(151)
	told, lost, fallen, kinds := 0, 0, 0, map[int]int{}
	for range 60 {
		w := newWorld()
		for range 100 {
			made := d.deed(w)
			got, code := impl.Do(w, made)
			if code != impl.CdDone {
				continue
			}
			asJudged(t, toldDeed(made), got, just())
			if made.Kind == impl.DdFall && len(w.Calls) > 0 {
				fallen++
			}
			kinds[made.Kind]++
			w = got
		}
		for _, l := range w.Letters {
			if madeByWord(w.Known, atom(l.Body)) {
				told++
			}
		}
		for _, h := range w.Hosts {
			if h.Lost {
				lost++
			}
		}
		if t.Failed() {
			return
		}
	}
	for kind := 1; kind <= 10; kind++ {
		if kinds[kind] < 20 {
			t.Error("the deeds ask for too little:", kinds)
		}
	}
	if told < 5 || lost < 20 || fallen < 20 {
		t.Error("the deeds ask for too little:", told, lost, fallen)
	}
}

// A letter that is handed on while anything else is done comes to its end, or not:
// all is right on the way.
func TestLettersAmongDeedsAreRight(t *testing.T) {
	d, ends := dice(154), map[[2]bool]int{}
	for range 200 {
		held := d.below(4) > 0
		k := called(t, held, "mx.a")
		ours := func() bool {
			return len(k.world.Calls) > 0 && k.client().Step < impl.ClDone && k.world.Talks[0].Server.Step != impl.SvFail
		}
		for ours() && k.on() {
			asJudged(t, "handed on", k.world, just())
			made := d.deed(k.world)
			if d.below(4) > 0 || made.Kind == impl.DdFall && d.below(4) > 0 {
				continue
			}
			if got, code := impl.Do(k.world, made); code == impl.CdDone {
				asJudged(t, toldDeed(made), got, just())
				k.world = got
			}
		}
		if len(k.world.Calls) > 0 {
			ends[[2]bool{k.world.Calls[0].Good, k.client().Step == impl.ClDone}]++
		}
		if t.Failed() {
			return
		}
	}
	for _, good := range []bool{false, true} {
		for _, done := range []bool{false, true} {
			if ends[[2]bool{good, done}] < 10 {
				t.Error("the deeds ask for too little:", ends)
			}
		}
	}
}

// Rows of deeds that DoAll does, as long as there may be, held and not.
func TestLongRowsAreRight(t *testing.T) {
	d := dice(152)
	for i := range 8 {
		w := newWorld()
		if i%2 == 0 {
			w, _ = impl.DoAll(w, []impl.Deed{asks(holding("a", "*.a"), 100000), asks(holding("b", "*.a", "*.e"), 100000), asks(holding("c", "mx.b"), 100000)})
		}
		got, codes := impl.DoAll(w, d.row(w, impl.MaxDeeds))
		if len(codes) != impl.MaxDeeds {
			t.Error(len(codes))
		}
		asJudged(t, "a long row", got, just())
	}
}

// A letter on its way, to each kind of host and held or not, is right at each step,
// with a host that is lost, a fall and what is sure ahead of that and behind it.
func TestLettersOnTheirWayAreRight(t *testing.T) {
	for _, held := range []bool{false, true} {
		for _, host := range []string{"mx.a", "m2.a"} {
			for _, d := range []impl.Deed{settle(), lose(0), lose(1), pass(200), fall(0), fall(5), fall(9999), meet(0)} {
				for step := impl.ClGreet; step <= impl.ClDone; step++ {
					k := called(t, held, host)
					k.upTo(step)
					asJudged(t, "on its way", k.world, just())
					k.do(d)
					asJudged(t, "behind "+toldDeed(d), k.world, just())
					if len(k.world.Calls) == 0 {
						continue
					}
					k.upTo(impl.ClDone)
					asJudged(t, "at its end", k.world, just())
					k.do(fall(math.MaxInt))
					asJudged(t, "behind a fall", k.world, just())
				}
			}
		}
	}
}

// What goes to the outsider's own host is told openly, and right.
func TestALetterToTheOutsiderIsRight(t *testing.T) {
	w, _ := evilTalk(t, newWorld())
	if !slices.Equal(w.Told, []int{1000}) || !impl.Made(w.Known, atom(1000)) {
		t.Error(toldWorld(w))
	}
	asJudged(t, "told", w, just())
}

// evilTalk takes a letter that is held, and brings it to who proves to be evil.e; all
// worlds on the way are told.
func evilTalk(t *testing.T, w impl.World) (impl.World, []impl.World) {
	t.Helper()
	both := share(atom(500), atom(1001))
	list := []impl.Deed{take("a"), asks(holding("a", "*.e"), 50), call(0, "evil.e"), tell(0, text("220")), tell(0, text("250 starttls")), tell(0, text("220")), tell(0, rightReply(atom(500), atom(1001), atom(501), lastingCert("evil.e", 501)))}
	for i, line := range []string{"250", "250", "354", "250"} {
		list = append(list, tell(0, sealedLine(both, 2, i, text(line))))
	}
	var all []impl.World
	for _, d := range list {
		next, code := impl.Do(w, d)
		if code != impl.CdDone {
			t.Fatal(toldDeed(d), code)
		}
		w = next
		all = append(all, w)
	}
	return w, all
}

// The document gives the outsider a certificate for evil.e, and nothing bars a host
// of that name: that one is taken for it, and the judge tells so.
func TestAHostOfTheOutsidersName(t *testing.T) {
	w, done := impl.WorldNew([]string{"evil.e"})
	if !done {
		t.Fatal("no world")
	}
	_, all := evilTalk(t, w)
	for i, w := range all {
		want := just()
		if i >= len(all)-2 {
			want.secret, want.all = false, false
		}
		if i == len(all)-1 {
			want.taken = false
		}
		asJudged(t, "of that name", w, want)
	}
}

// In worlds of any kind the judge speaks by the document's word.
func TestJudgesOfAnyWorld(t *testing.T) {
	d, seen := dice(153), map[verdict]int{}
	for range 6000 {
		w := d.world()
		if d.below(2) == 0 {
			list := d.notes(12)
			w.Book, w.Sure, w.Calls = journal(list...), 0, nil
			w.Letters = impl.Play(list)
		}
		for range d.below(3) {
			w.Known = append(w.Known, atom(oneOf(&d, 0, 30, 1000, 1001)))
		}
		for i := range w.Calls {
			if d.below(3) > 0 {
				w.Calls[i].Good = w.Calls[i].Client.Must
			}
		}
		seen[byWord(t, "any world", w)]++
		if t.Failed() {
			return
		}
	}
	if len(seen) < 10 || seen[just()] < 50 || seen[unjust()] < 500 {
		t.Error("the worlds ask for too little:", seen)
	}
}
