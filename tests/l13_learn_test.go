package tests

import (
	"math"
	"slices"
	"strings"
	"testing"

	"loop.example/g00328/impl"
)

// learns holds Learn against the document's word: what is known is the parts of
// all, and the rest is as it was.
func learns(t *testing.T, w impl.World, list ...impl.Term) impl.World {
	t.Helper()
	got := impl.Learn(w, list)
	if want := partsByWord(slices.Concat(w.Known, list)); !alike(got.Known, want) {
		t.Errorf("of %s and %s: %s, wanted %s", listed(w.Known), listed(list), listed(got.Known), listed(want))
	}
	if !sameBut(got, w) {
		t.Errorf("turned: %s, it was %s", toldWorld(got), toldWorld(w))
	}
	if impl.WorldOk(w) && !impl.WorldOk(got) {
		t.Errorf("not right any more: %s", toldWorld(got))
	}
	return got
}

// newWorld is that of a session.
func newWorld() impl.World {
	w, _ := newByWord([]string{"mx.a", "m2.a", "mx.b"})
	return w
}

func TestLearnNothing(t *testing.T) {
	for count := range 5 {
		w, _ := impl.WorldNew(goodHosts()[:count])
		if got := learns(t, w); !sameWorld(got, w) {
			t.Error(count, toldWorld(got))
		}
		if got := impl.Learn(w, terms{}); !sameWorld(got, w) {
			t.Error(count, toldWorld(got))
		}
	}
	if got := impl.Learn(impl.World{}, nil); !isNoWorld(got) {
		t.Error(toldWorld(got))
	}
	// What was known and not yet taken apart is so now.
	w := worldWith(bareWorld(), func(w *impl.World) { w.Known = terms{pair(atom(7), pair(atom(8), atom(7)))} })
	if got := learns(t, w); !alike(got.Known, terms{w.Known[0], atom(7), pair(atom(8), atom(7)), atom(8)}) {
		t.Error(listed(got.Known))
	}
}

func TestLearnOne(t *testing.T) {
	for _, w := range append(worlds(), newWorld()) {
		for _, x := range goodTerms() {
			got := learns(t, w, x)
			if len(w.Known) < 200 && !within(got.Known, x) {
				t.Error("not learnt:", shown(x))
			}
		}
	}
	got := impl.Learn(newWorld(), terms{pair(atom(10), atom(7))})
	if !impl.Made(got.Known, atom(7)) || !impl.Made(got.Known, atom(10)) || impl.Made(got.Known, atom(11)) {
		t.Error(listed(got.Known))
	}
	if was := newWorld(); !alike(got.Known, slices.Concat(was.Known, terms{pair(atom(10), atom(7)), atom(10), atom(7)})) {
		t.Error(listed(got.Known))
	}
}

func TestLearnMany(t *testing.T) {
	for _, w := range append(worlds(), newWorld()) {
		learns(t, w, goodTerms()...)
		learns(t, w, atoms(3000, 20)...)
		learns(t, w, slices.Repeat(goodTerms(), 3)...)
	}
	got := learns(t, newWorld(), atom(7), sign(atom(8), atom(9)), pair(text("x"), pub(atom(6))), atom(7))
	for x, want := range map[int]bool{6: false, 7: true, 8: false, 9: true} {
		if impl.Made(got.Known, atom(x)) != want {
			t.Error(x, !want)
		}
	}
}

func TestLearnWhatIsThere(t *testing.T) {
	w := newWorld()
	for _, x := range w.Known {
		if got := learns(t, w, x); !sameWorld(got, w) {
			t.Error(shown(x))
		}
		if got := learns(t, w, x, atom(7), x); len(got.Known) != len(w.Known)+1 {
			t.Error(shown(x))
		}
	}
	if got := learns(t, w, w.Known...); !sameWorld(got, w) {
		t.Error(toldWorld(got))
	}
	one := learns(t, w, pair(atom(7), atom(8)))
	if two := learns(t, one, pair(atom(7), atom(8))); !sameWorld(one, two) {
		t.Error(toldWorld(two))
	}
	// What can be made is not there yet, and is learnt all the same.
	if got := learns(t, w, pub(atom(500))); len(got.Known) != len(w.Known)+1 {
		t.Error(listed(got.Known))
	}
}

// What was sealed is known when its key is, whenever that comes.
func TestLearnAKeyLater(t *testing.T) {
	key, body := hash(pair(share(atom(20), atom(40)), text("1"))), pair(text("body"), atom(30))
	heard := pair(seal(key, body), atom(7))
	w := learns(t, newWorld(), heard)
	if !impl.Made(w.Known, atom(7)) || impl.Made(w.Known, atom(30)) || impl.Made(w.Known, atom(20)) {
		t.Error(listed(w.Known))
	}
	for what, late := range map[string]terms{
		"the key":               {key},
		"the share":             {share(atom(20), atom(40))},
		"one secret":            {atom(20), pub(atom(40))},
		"the other":             {pair(pub(atom(20)), atom(40))},
		"the key sealed":        {seal(atom(7), key)},
		"the key sealed openly": {sign(atom(9), seal(text("x"), key))},
	} {
		later := learns(t, w, late...)
		if !impl.Made(later.Known, atom(30)) {
			t.Error(what, "later:", listed(later.Known))
		}
		if sooner := learns(t, learns(t, newWorld(), late...), heard); !impl.Made(sooner.Known, atom(30)) {
			t.Error(what, "sooner:", listed(sooner.Known))
		}
		if both := learns(t, newWorld(), append(terms{heard}, late...)...); !impl.Made(both.Known, atom(30)) {
			t.Error(what, "at once:", listed(both.Known))
		}
	}
	for what, late := range map[string]impl.Term{"another key": atom(8), "the open halves": pair(pub(atom(20)), pub(atom(40))), "the seal again": heard, "another share": share(atom(20), atom(41)), "a hash": hash(share(atom(20), atom(40)))} {
		if got := learns(t, w, late); impl.Made(got.Known, atom(30)) {
			t.Error(what, listed(got.Known))
		}
	}
	// One key after the other.
	chain := learns(t, newWorld(), seal(atom(3), atom(4)), seal(atom(2), atom(3)))
	chain = learns(t, chain, seal(atom(5), atom(2)))
	if impl.Made(chain.Known, atom(4)) {
		t.Error(listed(chain.Known))
	}
	if chain = learns(t, chain, pair(atom(5), text("x"))); !impl.Made(chain.Known, atom(4)) {
		t.Error(listed(chain.Known))
	}
}

// Terms that are not TermOk are left away, of what is learnt and of what was known.
func TestLearnWhatIsNotOk(t *testing.T) {
	for _, x := range append(badTerms()[:40], ring(), pair(ring(), atom(7)), tree(10000)) {
		w := newWorld()
		if got := impl.Learn(w, terms{x}); !sameWorld(got, w) {
			t.Error("learnt:", toldWorld(got))
		}
		if got := impl.Learn(w, terms{x, atom(7), x, pair(atom(8), atom(9))}); !alike(got.Known, slices.Concat(w.Known, terms{atom(7), pair(atom(8), atom(9)), atom(8), atom(9)})) {
			t.Error("beside what is ok:", listed(got.Known))
		}
		wrong := worldWith(w, func(w *impl.World) { w.Known = terms{atom(7), x, atom(8)} })
		if got := impl.Learn(wrong, terms{x, atom(9)}); !alike(got.Known, atoms(7, 3)) || !sameBut(got, wrong) {
			t.Error("known:", listed(got.Known))
		}
	}
	for _, x := range badTerms() {
		learns(t, someWorld(), x, atom(7))
	}
}

func TestLearnUpToTheRoom(t *testing.T) {
	for _, was := range []int{0, 1, 298, 299, 300, 301, 400} {
		for _, more := range []int{0, 1, 2, 299, 300, 301, 1000} {
			w := worldWith(someWorld(), func(w *impl.World) { w.Known = atoms(0, was) })
			got := learns(t, w, atoms(5000, more)...)
			if len(got.Known) != min(was+more, 300) {
				t.Error(was, more, len(got.Known))
			}
			if want := slices.Concat(w.Known, atoms(5000, more)); !alike(got.Known, want[:min(len(want), 300)]) {
				t.Error(was, more, listed(got.Known))
			}
		}
	}
	// Those of the list come ahead of what they are taken apart to.
	w := worldWith(bareWorld(), func(w *impl.World) { w.Known = atoms(0, 297) })
	got := learns(t, w, pair(atom(600), atom(601)), atom(602))
	if !alike(got.Known[297:], terms{pair(atom(600), atom(601)), atom(602), atom(600)}) {
		t.Error(listed(got.Known[297:]))
	}
	// What is known stays so, however much is heard.
	if got := learns(t, fullWorld(), pair(atom(600), atom(601))); !sameWorld(got, fullWorld()) {
		t.Error("a full one was turned")
	}
	// What is there twice takes no room.
	w.Known = slices.Repeat(atoms(0, 150), 2)
	if got := learns(t, w, atoms(5000, 200)...); len(got.Known) != 300 || !impl.Made(got.Known, atom(5149)) || impl.Made(got.Known, atom(5150)) {
		t.Error(len(got.Known))
	}
	huge := learns(t, impl.World{}, atoms(0, 301)...)
	if impl.Made(huge.Known, atom(300)) || !impl.Made(huge.Known, atom(299)) {
		t.Error(len(huge.Known))
	}
}

// oddWorlds are right ones and such as are not, each by one thing or by many.
func oddWorlds() []impl.World {
	list := append(worlds(), impl.World{}, newWorld())
	for _, n := range []int{math.MinInt, -1, 0, 1 << 32, math.MaxInt} {
		for _, w := range []impl.World{someWorld(), bareWorld()} {
			for _, field := range []string{"time", "fresh", "sure"} {
				list = append(list, worldWith(w, worldNumbers(w)[field].to(n)))
			}
		}
		list = append(list, numbered(n))
	}
	for _, s := range []string{"", "\x00", "\xff\xfe", "a\nb", strings.Repeat("\xff", 1<<12)} {
		list = append(list, named(s))
	}
	for _, x := range append(badTerms()[:9], goodTerms()[30:36]...) {
		list = append(list, worldWith(someWorld(), func(w *impl.World) {
			w.Known = append(w.Known, x)
			w.Calls[0].Client.Share, w.Talks[0].Server.Share, w.Talks[1].Server.Cert = x, x, x
		}))
	}
	return append(list, worldWith(someWorld(), func(w *impl.World) {
		w.Known, w.Cache, w.Hosts = slices.Repeat(w.Known, 100), slices.Repeat(w.Cache, 5), slices.Repeat(w.Hosts, 5)
		w.Letters, w.Calls, w.Talks, w.Told = slices.Repeat(w.Letters, 40), slices.Repeat(w.Calls, 20), slices.Repeat(w.Talks, 20), slices.Repeat(w.Told, 20)
		w.Book = strings.Repeat(w.Book, 100)
	}))
}

func (p put) to(n int) func(w *impl.World) { return func(w *impl.World) { p.turn(w, n) } }

// numbered has that number wherever there is one.
func numbered(n int) impl.World {
	c := impl.Client{Step: n, Host: "mx.a", Eph: n, Body: n, In: n, Out: n, Share: atom(n)}
	s := impl.Server{Step: n, Host: "mx.a", Key: n, Eph: n, Cert: atom(n), Share: atom(n), In: n, Out: n, Got: []int{n, n}}
	return impl.World{
		Time: n, Fresh: n, Sure: n, Known: terms{atom(n), {Op: n, N: n}}, Cache: []impl.Policy{{Domain: "a", Mode: n, Until: n}},
		Hosts: []impl.Host{{Name: "mx.a", Key: n}}, Letters: []impl.Letter{{Domain: "a", Body: n, State: n, Tries: n, Next: n}},
		Calls: []impl.Call{{Letter: n, Client: c}}, Talks: []impl.Talk{{Host: n, Server: s}}, Told: []int{n, n},
	}
}

// named has that text wherever there is one.
func named(s string) impl.World {
	x := text(s)
	return impl.World{
		Known: terms{x, hash(x)}, Cache: []impl.Policy{{Domain: s, Mx: []string{s, s}}}, Hosts: []impl.Host{{Name: s}, {Name: s}}, Letters: []impl.Letter{{Domain: s}},
		Book: s, Calls: []impl.Call{{Client: impl.Client{Host: s, Share: x}}}, Talks: []impl.Talk{{Server: impl.Server{Host: s, Cert: x, Share: x}}},
	}
}

// Learn asks for no more than it turns: a world that is not right learns too.
func TestLearnOfOddWorlds(t *testing.T) {
	right := 0
	for _, w := range oddWorlds() {
		if impl.WorldOk(w) != worldByWord(w) {
			t.Error(toldWorld(w))
		}
		if worldByWord(w) {
			right++
		}
		learns(t, w)
		learns(t, w, pair(atom(7), text("y")), seal(text("k"), atom(6)))
		learns(t, w, w.Known...)
		for _, name := range []string{"", "mx.a", "mx.b", "\xff\xfe"} {
			isNamed(t, w, name, namedByWord(w, name))
		}
	}
	if right < 5 || right > len(oddWorlds())-20 {
		t.Error("the worlds ask for too little:", right)
	}
}

// Each number of a world may be any there is: nothing panics, and all of it is as
// it was.
func TestWorldsAtTheEndsOfInt(t *testing.T) {
	for _, w := range worlds() {
		for what, p := range worldNumbers(w) {
			for _, n := range []int{math.MinInt, math.MinInt + 1, math.MaxInt - 1, math.MaxInt} {
				made := worldWith(w, p.to(n))
				if impl.WorldOk(made) {
					t.Error("ok:", what, n)
				}
				if got := impl.Learn(made, terms{atom(7)}); !sameBut(got, made) {
					t.Error("turned:", what, n)
				}
				isNamed(t, made, "mx.a", namedByWord(w, "mx.a"))
			}
		}
	}
}

func TestWorldsOfGreatTexts(t *testing.T) {
	for _, s := range []string{strings.Repeat("a", 1<<20), strings.Repeat("\xff", 1<<20), strings.Repeat("a.", 1<<19), strings.Repeat("\n", 1<<20)} {
		w := named(s)
		if impl.WorldOk(w) {
			t.Error("ok")
		}
		if got := impl.Learn(w, terms{text(s), atom(7)}); !sameBut(got, w) || !alike(got.Known, terms{atom(7)}) {
			t.Error("learnt")
		}
		isNamed(t, w, s, 0)
		isNamed(t, w, s[1:], -1)
		wantsNone(t, s)
		wantsNone(t, "mx.a", s)
	}
}

// A world may have terms of any depth, and such as have no end.
func TestWorldsOfDeepTerms(t *testing.T) {
	deep := atom(3)
	for range 200000 {
		deep = impl.Term{Op: impl.TmHash, Kids: terms{deep}}
	}
	w := worldWith(someWorld(), func(w *impl.World) {
		w.Known = append(w.Known, deep)
		w.Calls[0].Client.Share, w.Talks[0].Server.Share, w.Talks[0].Server.Cert = deep, deep, deep
	})
	got := impl.Learn(w, terms{deep, atom(7)})
	if impl.WorldOk(w) || impl.WorldOk(got) || !impl.Made(got.Known, atom(7)) || len(got.Known) > 20 {
		t.Error("known:", len(got.Known))
	}
	for _, x := range (terms{got.Calls[0].Client.Share, got.Talks[0].Server.Share, got.Talks[0].Server.Cert}) {
		if !impl.Same(x, deep) {
			t.Error("not as it was")
		}
	}
	for _, endless := range (terms{ring(), pair(ring(), ring()), pub(ring())}) {
		w := worldWith(someWorld(), func(w *impl.World) {
			w.Known = append(w.Known, endless)
			w.Calls[0].Client.Share, w.Talks[0].Server.Share, w.Talks[0].Server.Cert = endless, endless, endless
		})
		got := impl.Learn(w, terms{endless, atom(7)})
		if impl.WorldOk(w) || impl.WorldOk(got) || !impl.Made(got.Known, atom(7)) || got.Calls[0].Client.Share.Op != endless.Op || got.Talks[0].Server.Cert.Op != endless.Op {
			t.Error("known:", len(got.Known))
		}
	}
}

func TestLearnByWord(t *testing.T) {
	d, more := dice(136), 0
	for range 1500 {
		w := d.world()
		w.Known = w.Known[:min(len(w.Known), 40)]
		got := learns(t, w, d.list(4)...)
		// And on from there: who knows more can make more.
		next := learns(t, got, d.list(4)...)
		for _, x := range got.Known {
			if !within(next.Known, x) {
				t.Fatal("forgotten:", shown(x))
			}
		}
		if len(next.Known) > len(got.Known) {
			more++
		}
	}
	if more < 500 {
		t.Error("the lists ask for too little:", more)
	}
}

// One by one or all at once, the same is known in the end.
func TestLearnOneByOne(t *testing.T) {
	d := dice(137)
	for range 300 {
		list := d.list(4)
		w := newWorld()
		for _, x := range list {
			w = impl.Learn(w, terms{x})
		}
		once := impl.Learn(newWorld(), list)
		if len(w.Known) != len(once.Known) {
			t.Fatalf("of %s: %s, at once %s", listed(list), listed(w.Known), listed(once.Known))
		}
		for _, x := range once.Known {
			if !within(w.Known, x) {
				t.Fatalf("of %s: not %s", listed(list), shown(x))
			}
		}
	}
}
