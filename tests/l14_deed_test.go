package tests

import (
	"fmt"
	"math"
	"slices"
	"strings"
	"testing"

	"loop.example/g00328/impl"
)

// deedByWord is what the document says of Do, by the chapters ahead of it, told
// apart from the program.
func deedByWord(w impl.World, d impl.Deed) (impl.World, int) {
	turns := map[int]func(w *impl.World, d impl.Deed) int{
		1: takenByWord, 2: askedByWord, 3: passedByWord, 4: calledByWord, 5: metByWord,
		6: toldByWord, 7: saidByWord, 8: lostByWord, 9: fallenByWord, 10: sureByWord,
	}
	turn, there := turns[d.Kind]
	if !there || !impl.WorldOk(w) {
		return impl.World{}, 1
	}
	code := 0
	next := worldWith(w, func(w *impl.World) { code = turn(w, d) })
	if code == 0 && !impl.WorldOk(next) {
		code = 4
	}
	if code != 0 {
		return w, code
	}
	return next, 0
}

func takenByWord(w *impl.World, d impl.Deed) int {
	who := len(w.Letters)
	if !domainByWord(d.S) {
		return 3
	}
	if who == 30 {
		return 4
	}
	w.Letters = append(w.Letters, impl.Letter{Domain: d.S, Body: w.Fresh, State: 1})
	w.Book += noteTextByWord(takeNote(who, d.S, w.Fresh))
	w.Sure = len(w.Book)
	w.Fresh++
	return 0
}

func askedByWord(w *impl.World, d impl.Deed) int {
	at := strings.IndexByte(d.S, 32)
	if at < 0 {
		return 3
	}
	p, read := readByWord(d.S[:at], d.S[at+1:], w.Time)
	if !read {
		return 3
	}
	w.Cache = slices.DeleteFunc(w.Cache, func(q impl.Policy) bool { return q.Domain == p.Domain })
	w.Cache = append(w.Cache, p)
	slices.SortFunc(w.Cache, func(p, q impl.Policy) int { return strings.Compare(p.Domain, q.Domain) })
	return 0
}

func passedByWord(w *impl.World, d impl.Deed) int {
	if d.A < 0 || d.A > 100000 || w.Time+d.A > 100000 {
		return 3
	}
	w.Time += d.A
	for i, l := range w.Letters {
		note := noteTextByWord(backNote(i))
		if spentByWord(l, w.Time) && len(w.Book)+len(note) <= 12000 {
			w.Letters[i].State = 3
			w.Book += note
		}
	}
	return 0
}

func calledByWord(w *impl.World, d impl.Deed) int {
	if d.A < 0 || d.A >= len(w.Letters) {
		return 2
	}
	l, tried := tryByWord(w.Letters[d.A], w.Time)
	must, may := false, true
	for _, p := range w.Cache {
		if p.Domain == l.Domain && p.Mode == 2 && w.Time <= p.Until {
			must, may = true, slices.ContainsFunc(p.Mx, func(mx string) bool { return fitsByWord(mx, d.S) })
		}
	}
	if !hostByWord(d.S) || !tried || !may {
		return 3
	}
	w.Calls = append(w.Calls, impl.Call{Letter: d.A, Client: impl.Client{Step: 1, Host: d.S, Must: must, Eph: w.Fresh, Body: l.Body}})
	w.Letters[d.A] = l
	w.Book += noteTextByWord(tryNote(d.A, w.Time))
	w.Fresh++
	return 0
}

// lastingCert is what a host shows: its name, the open half of its key, and no end.
func lastingCert(name string, key int) impl.Term {
	return certTerm(atom(1), text(name), pub(atom(key)), text("100000"))
}

func metByWord(w *impl.World, d impl.Deed) int {
	if d.A < 0 || d.A >= len(w.Hosts) {
		return 2
	}
	h := w.Hosts[d.A]
	w.Talks = append(w.Talks, impl.Talk{Host: d.A, Server: impl.Server{Step: 1, Host: h.Name, Key: h.Key, Eph: w.Fresh, Cert: lastingCert(h.Name, h.Key)}})
	w.Fresh++
	w.Known = impl.Parts(append(w.Known, text("220")))
	return 0
}

func toldByWord(w *impl.World, d impl.Deed) int {
	switch {
	case d.A < 0 || d.A >= len(w.Calls):
		return 2
	case !impl.Made(w.Known, d.T):
		return 5
	}
	k := &w.Calls[d.A]
	was := k.Client
	if was.Step == 9 || was.Step == 10 {
		return 3
	}
	is, said := impl.ClientHear(was, d.T, w.Time)
	w.Known = impl.Parts(append(w.Known, said...))
	k.Client = is
	holds := slices.ContainsFunc(w.Hosts, func(h impl.Host) bool { return h.Name == is.Host && !h.Lost })
	if is.Tls && !was.Tls && is.Must && is.Proved && holds {
		k.Good = true
	}
	if is.Step == 8 && was.Step != 8 && !k.Good {
		w.Told = slices.Compact(slices.Sorted(slices.Values(append(w.Told, is.Body))))
	}
	if is.Step == 9 && w.Letters[k.Letter].State == 1 {
		w.Letters[k.Letter].State = 2
		w.Book += noteTextByWord(goneNote(k.Letter))
	}
	return 0
}

func saidByWord(w *impl.World, d impl.Deed) int {
	switch {
	case d.A < 0 || d.A >= len(w.Talks):
		return 2
	case !impl.Made(w.Known, d.T):
		return 5
	case w.Talks[d.A].Server.Step == 5:
		return 3
	}
	is, said := impl.ServerHear(w.Talks[d.A].Server, d.T)
	w.Talks[d.A].Server = is
	w.Known = impl.Parts(append(w.Known, said...))
	return 0
}

func lostByWord(w *impl.World, d impl.Deed) int {
	if d.A < 0 || d.A >= len(w.Hosts) {
		return 2
	}
	w.Hosts[d.A].Lost = true
	w.Known = impl.Parts(append(w.Known, atom(w.Hosts[d.A].Key)))
	return 0
}

func fallenByWord(w *impl.World, d impl.Deed) int {
	torn := w.Book[w.Sure:]
	kept := w.Book[:w.Sure]
	for i := 0; i < len(torn) && i < d.A; i++ {
		kept += torn[i : i+1]
	}
	list, used := notesByWord(kept)
	w.Book, w.Sure, w.Letters, w.Calls = kept[:used], used, playByWord(list), nil
	return 0
}

func sureByWord(w *impl.World, d impl.Deed) int {
	w.Sure = len(w.Book)
	return 0
}

// toldDeed is d as text, for what a test tells.
func toldDeed(d impl.Deed) string {
	return fmt.Sprintf("kind %d, %d, %.80q, %.200s", d.Kind, d.A, d.S, shown(d.T))
}

// does tells what Do makes of w, which is w with that turned.
func does(t *testing.T, w impl.World, d impl.Deed, turn func(w *impl.World)) impl.World {
	t.Helper()
	want := worldWith(w, turn)
	got, code := impl.Do(w, d)
	if code != impl.CdDone || !sameWorld(got, want) {
		t.Errorf("%s: %d, %s; wanted %s", toldDeed(d), code, toldWorld(got), toldWorld(want))
	}
	if !impl.WorldOk(got) || !worldByWord(got) {
		t.Errorf("%s: not right any more: %s", toldDeed(d), toldWorld(got))
	}
	if by, code := deedByWord(w, d); code != impl.CdDone || !sameWorld(by, want) {
		t.Errorf("%s: by the document's word %d, %s; wanted %s", toldDeed(d), code, toldWorld(by), toldWorld(want))
	}
	return got
}

// refuses tells whether Do answers that code, and w as it was.
func refuses(t *testing.T, w impl.World, d impl.Deed, want int) {
	t.Helper()
	if got, code := impl.Do(w, d); code != want || !sameWorld(got, w) {
		t.Errorf("%s: %d, wanted %d, %s; it was %s", toldDeed(d), code, want, toldWorld(got), toldWorld(w))
	}
	if by, code := deedByWord(w, d); code != want || !sameWorld(by, w) {
		t.Errorf("%s: by the document's word %d, wanted %d", toldDeed(d), code, want)
	}
}

// isBad tells whether Do answers the zero world.
func isBad(t *testing.T, w impl.World, d impl.Deed) {
	t.Helper()
	if got, code := impl.Do(w, d); code != impl.CdBad || !isNoWorld(got) {
		t.Errorf("%s: %d, %s", toldDeed(d), code, toldWorld(got))
	}
}

// asTheWord holds Do against the document's word, and tells the code.
func asTheWord(t *testing.T, w impl.World, d impl.Deed) (impl.World, int) {
	t.Helper()
	got, code := impl.Do(w, d)
	if want, by := deedByWord(w, d); code != by || !sameWorld(got, want) {
		t.Errorf("%s: %d, %s; wanted %d, %s", toldDeed(d), code, toldWorld(got), by, toldWorld(want))
	}
	if code != impl.CdBad && !impl.WorldOk(got) {
		t.Errorf("%s: not right any more: %s", toldDeed(d), toldWorld(got))
	}
	return got, code
}

func TestDeedConstants(t *testing.T) {
	for i, kind := range []int{impl.DdTake, impl.DdAsk, impl.DdTime, impl.DdCall, impl.DdMeet, impl.DdTell, impl.DdSay, impl.DdLose, impl.DdFall, impl.DdSure} {
		if kind != i+1 {
			t.Error("kind", i, kind)
		}
	}
	for i, code := range []int{impl.CdDone, impl.CdBad, impl.CdNone, impl.CdIdle, impl.CdFull, impl.CdCannot} {
		if code != i {
			t.Error("code", i, code)
		}
	}
	if impl.MaxDeeds != 300 {
		t.Error(impl.MaxDeeds)
	}
}

// deedsDone are one of each Kind, which are done in that world.
func deedsDone() (impl.World, []impl.Deed) {
	w := worldWith(someWorld(), func(w *impl.World) {
		w.Calls[0].Client = openClient(impl.ClGreet)
		w.Letters[0].Next = 40
	})
	return w, []impl.Deed{
		{Kind: impl.DdTake, S: "a"}, {Kind: impl.DdAsk, S: "a " + textByWord(goodPolicies()[0], 3)}, {Kind: impl.DdTime, A: 5},
		{Kind: impl.DdCall, S: "mx.c"}, {Kind: impl.DdMeet}, {Kind: impl.DdTell, T: text("220")}, {Kind: impl.DdSay, A: 1, T: text("ehlo")},
		{Kind: impl.DdLose}, {Kind: impl.DdFall}, {Kind: impl.DdSure},
	}
}

func TestDoEachKind(t *testing.T) {
	w, list := deedsDone()
	isRight(t, "the world", w)
	for i, d := range list {
		if d.Kind != i+1 {
			t.Error("not of each kind")
		}
		if got, code := asTheWord(t, w, d); code != impl.CdDone || sameWorld(got, w) {
			t.Error(toldDeed(d), code)
		}
	}
}

func TestDoOfNoKind(t *testing.T) {
	given, list := deedsDone()
	for _, w := range append(worlds(), given, newWorld()) {
		for _, kind := range append(farNumbers(), 0, 11, 12, 20, 99, 255, 256, 257, 266, 1<<32+10, math.MinInt+1, math.MinInt+10) {
			for _, d := range list {
				d.Kind = kind
				isBad(t, w, d)
			}
		}
		isBad(t, w, impl.Deed{})
	}
}

func TestDoInNoWorld(t *testing.T) {
	_, list := deedsDone()
	asked := 0
	for _, w := range oddWorlds() {
		if worldByWord(w) {
			continue
		}
		asked++
		for _, d := range append(list, impl.Deed{}, impl.Deed{Kind: 11}, impl.Deed{Kind: impl.DdTake, S: "A"}, impl.Deed{Kind: impl.DdCall, A: 99}, impl.Deed{Kind: impl.DdTell, T: atom(3)}) {
			isBad(t, w, d)
		}
	}
	if asked < 20 {
		t.Error("the worlds ask for too little:", asked)
	}
	for _, w := range worlds() {
		for what, p := range worldNumbers(w) {
			for _, n := range []int{p.least - 1, p.most + 1} {
				for _, d := range list {
					if got, code := impl.Do(worldWith(w, p.to(n)), d); code != impl.CdBad || !isNoWorld(got) {
						t.Error(what, n, d.Kind, code)
					}
				}
			}
		}
	}
}

// freshes are deeds that each need one secret more.
func freshes() (impl.World, []impl.Deed) {
	w := worldWith(newWorld(), func(w *impl.World) { w.Letters = []impl.Letter{letterOf(impl.LtWait, 0, 0)} })
	return w, []impl.Deed{{Kind: impl.DdTake, S: "a"}, {Kind: impl.DdCall, S: "mx.a"}, {Kind: impl.DdMeet, A: 1}}
}

// The last secret is never used: behind it the world would not be right.
func TestDoUpToTheLastSecret(t *testing.T) {
	some, list := freshes()
	for _, d := range list {
		for _, fresh := range []int{1000, 1001, 9999, 10000, 999988, 999989} {
			w := worldWith(some, func(w *impl.World) { w.Fresh = fresh })
			if got, code := asTheWord(t, w, d); code != impl.CdDone || got.Fresh != fresh+1 {
				t.Error(toldDeed(d), code, got.Fresh)
			}
		}
		refuses(t, worldWith(some, func(w *impl.World) { w.Fresh = 999990 }), d, impl.CdFull)
	}
	w, all := deedsDone()
	w.Fresh = 999990
	for _, d := range all {
		want := impl.CdDone
		if d.Kind == impl.DdTake || d.Kind == impl.DdCall || d.Kind == impl.DdMeet {
			want = impl.CdFull
		}
		if got, code := asTheWord(t, w, d); code != want || got.Fresh != 999990 {
			t.Error(toldDeed(d), code, got.Fresh)
		}
	}
}

// A secret is never used twice, whatever it is used for.
func TestEachSecretIsUsedOnce(t *testing.T) {
	w, list := freshes()
	used := map[int]int{}
	for range 3 {
		for _, d := range list {
			next, code := impl.Do(w, d)
			if code != impl.CdDone || next.Fresh != w.Fresh+1 {
				t.Fatal(toldDeed(d), code, next.Fresh)
			}
			w, _ = impl.Do(next, impl.Deed{Kind: impl.DdTime, A: 1000})
		}
	}
	for _, l := range w.Letters[1:] {
		used[l.Body]++
	}
	for _, c := range w.Calls {
		used[c.Client.Eph]++
	}
	for _, k := range w.Talks {
		used[k.Server.Eph]++
	}
	for n := 1000; n < w.Fresh; n++ {
		if used[n] != 1 {
			t.Error(n, used[n])
		}
	}
	if len(used) != 9 {
		t.Error(used)
	}
}

// oddDeeds are of each Kind and of none, with all that a deed may have.
func oddDeeds() []impl.Deed {
	var list []impl.Deed
	for _, kind := range []int{math.MinInt, -1, 0, 1, 2, 3, 4, 5, 6, 7, 8, 9, 10, 11, 1 << 32, math.MaxInt} {
		for _, a := range []int{math.MinInt, math.MinInt + 1, -100000, -1, 0, 1, 2, 3, 11, 12, 29, 30, 99960, 100000, 100001, 1 << 32, math.MaxInt - 100000, math.MaxInt - 1, math.MaxInt} {
			list = append(list, impl.Deed{Kind: kind, A: a, S: "a", T: text("220")}, impl.Deed{Kind: kind, A: a, S: "mx.a", T: atom(3)}, impl.Deed{Kind: kind, A: a, S: "mx.a", T: text("x")})
		}
		for _, s := range []string{"", " ", "a", "a ", " a", "b " + textByWord(goodPolicies()[0], 3), "\x00", "\xff\xfe", "mx.a\n", "*.a"} {
			list = append(list, impl.Deed{Kind: kind, S: s, T: text("250")})
		}
		for _, x := range append(badTerms()[:30], ring(), pair(ring(), ring()), tree(100000), impl.Term{}, atom(8), seal(hash(atom(9)), atom(8))) {
			list = append(list, impl.Deed{Kind: kind, A: 1, S: "mx.a", T: x})
		}
	}
	return list
}

func TestOddDeeds(t *testing.T) {
	codes := map[int]int{}
	for _, w := range append(worlds(), newWorld()) {
		for _, d := range oddDeeds() {
			_, code := asTheWord(t, w, d)
			codes[code]++
		}
	}
	for code := range 6 {
		if codes[code] < 20 {
			t.Error("the deeds ask for too little:", codes)
		}
	}
}

// Each number of a world at its ends, and each deed: nothing panics, and all is by
// the document's word.
func TestDeedsAtTheEndsOfWorlds(t *testing.T) {
	_, list := deedsDone()
	for _, w := range []impl.World{someWorld(), bareWorld()} {
		for _, p := range worldNumbers(w) {
			for _, n := range []int{math.MinInt, p.least - 1, p.least, p.most, p.most + 1, math.MaxInt} {
				made := worldWith(w, p.to(n))
				for _, d := range list {
					asTheWord(t, made, d)
				}
			}
		}
	}
}

func TestDeedsOfGreatTexts(t *testing.T) {
	for _, one := range []string{"a", " ", "\n", "\x00", "\xff", "a ", "a.", "mx: *.a\n", "é"} {
		many := strings.Repeat(one, 1<<20)
		for _, w := range []impl.World{someWorld(), newWorld()} {
			for kind := 1; kind <= 10; kind++ {
				asTheWord(t, w, impl.Deed{Kind: kind, S: many, T: text(many)})
			}
			refuses(t, w, impl.Deed{Kind: impl.DdTake, S: many}, impl.CdIdle)
			refuses(t, w, impl.Deed{Kind: impl.DdAsk, S: many}, impl.CdIdle)
			refuses(t, w, impl.Deed{Kind: impl.DdAsk, S: "a " + many}, impl.CdIdle)
			refuses(t, w, impl.Deed{Kind: impl.DdAsk, S: "a version: v1\nmode: hold\n" + many}, impl.CdIdle)
		}
		refuses(t, someWorld(), impl.Deed{Kind: impl.DdCall, S: many}, impl.CdIdle)
		refuses(t, someWorld(), impl.Deed{Kind: impl.DdTell, T: text(many)}, impl.CdCannot)
	}
}
