package tests

import (
	"slices"
	"strings"
	"testing"

	"loop.example/g00328/impl"
)

func TestMaxKnown(t *testing.T) {
	if impl.MaxKnown != 300 {
		t.Error(impl.MaxKnown)
	}
}

func TestPartsInOrder(t *testing.T) {
	a, b, c, d, e := atom(1), atom(2), atom(3), atom(4), atom(5)
	ab, cd := pair(a, b), pair(c, d)
	for _, x := range []struct {
		name  string
		list  terms
		added terms
	}{
		{"nothing to be taken apart", terms{c, text("x"), pub(a), hash(ab), share(a, b), b}, nil},
		{"a pair", terms{ab}, terms{a, b}},
		{"a pair the other way round", terms{pair(b, a)}, terms{b, a}},
		{"a pair of the same", terms{pair(a, a)}, terms{a}},
		{"a pair behind one of its kids", terms{b, ab}, terms{a}},
		{"a pair ahead of one of its kids", terms{ab, a}, terms{b}},
		{"a sign", terms{sign(a, b)}, terms{b}},
		{"a sign of a pair", terms{sign(a, cd)}, terms{cd, c, d}},
		{"a seal without its key", terms{seal(a, b)}, nil},
		{"a seal with its key", terms{a, seal(a, b)}, terms{b}},
		{"a seal by its own body", terms{seal(a, a), seal(b, pair(b, a))}, nil},
		{"a seal by a text", terms{seal(text("k"), b)}, terms{b}},
		{"a seal within a seal", terms{seal(a, seal(b, c)), b, a}, terms{seal(b, c), c}},
		{"a seal by what seals", terms{seal(seal(a, b), c), seal(a, b)}, terms{c}},
		{"pairs one behind the other", terms{ab, cd}, terms{a, b, c, d}},
		{"pairs within a pair", terms{pair(ab, cd)}, terms{ab, cd, a, b, c, d}},
		{"pairs deep on the left", terms{pair(pair(ab, c), d)}, terms{pair(ab, c), d, ab, c, a, b}},
		{"pairs deep on the right", terms{pair(a, pair(b, cd))}, terms{a, pair(b, cd), b, cd, c, d}},
		{"what was added is gone over behind all that was there", terms{pair(ab, e), cd}, terms{ab, e, c, d, a, b}},
		{"of a sign and of pairs", terms{sign(a, ab), pair(c, sign(d, e))}, terms{ab, c, sign(d, e), a, b, e}},
		{"the same term in several places", terms{pair(ab, ab), pair(sign(c, ab), a), seal(b, ab)}, terms{ab, sign(c, ab), a, b}},
		{"not what is within a pub, a hash, a share or a key", terms{pub(ab), hash(cd), share(a, e), sign(ab, e), seal(e, text("x"))}, terms{e, text("x")}},
	} {
		was := slices.Clone(x.list)
		if got := impl.Parts(x.list); !alike(got, append(was, x.added...)) {
			t.Errorf("%s: %s", x.name, listed(got))
		}
	}
}

func TestPartsHasEachOnce(t *testing.T) {
	a, b := atom(1), atom(2)
	got := impl.Parts(terms{b, a, b, pair(a, b), a, roomy(pair(a, b)), {Op: impl.TmAtom, N: 2, Kids: terms{}}, hash(a), hash(a)})
	if want := (terms{b, a, pair(a, b), hash(a)}); !alike(got, want) {
		t.Error(listed(got))
	}
}

func TestWhatReadsAlikeIsToldApart(t *testing.T) {
	list := terms{
		pair(text("a>,<b"), text("c")), pair(text("a"), text("b>,<c")),
		hash(pair(text("1),2"), text(""))), hash(pair(text("1"), text("),2"))),
		seal(text(" 2 0 1 "), text("")), seal(text(""), text(" 2 0 1 ")),
		pair(text("2 0 0 "), text("")), pair(text(""), text("2 0 0 ")),
		pair(text("2 0 "), text("")), pair(text(""), text("2 0 ")),
		pair(text("0"), text("xxxxxx1110")), pair(text("2010xxxxxx"), atom(11)),
		atom(12), text("12"), pair(atom(1), atom(23)), pair(atom(12), atom(3)),
		text("3 0 0 "), text("\x00"), text(""),
	}
	got := impl.Parts(list)
	if !alike(got, partsByWord(list)) || !alike(got[:len(list)], list) {
		t.Error(listed(got))
	}
	k, body := atom(99), atom(98)
	for i, x := range list {
		for j, y := range list {
			known := sign(k, x)
			if got := impl.Made(terms{known}, sign(k, y)); got != (i == j) {
				t.Error("made:", shown(y), "by", shown(x), got)
			}
			if got := impl.Can(terms{seal(sign(k, y), body), known}, body); got != (i == j) {
				t.Error("opened by", shown(x), "in place of", shown(y), got)
			}
		}
	}
}

func TestPartsWithKeysKnownLater(t *testing.T) {
	a, b, c, d, e := atom(1), atom(2), atom(3), atom(4), atom(5)
	put := hash(pair(share(a, b), text("1")))
	for _, x := range []struct {
		name  string
		list  terms
		added terms
	}{
		{"the key behind the seal", terms{seal(a, b), a}, terms{b}},
		{"the key in a pair behind the seal", terms{seal(a, b), pair(a, c)}, terms{a, c, b}},
		{"the key in a pair ahead of the seal", terms{pair(c, a), seal(a, b)}, terms{c, a, b}},
		{"the key out of a seal ahead", terms{seal(a, b), seal(b, c), a}, terms{b, c}},
		{"the key out of a seal behind", terms{seal(b, c), seal(a, b), a}, terms{b, c}},
		{"one seal after the other, from the last on", terms{seal(d, e), seal(c, d), seal(b, c), seal(a, b), a}, terms{b, c, d, e}},
		{"the key out of a sign within a seal", terms{seal(b, c), seal(a, sign(d, b)), a}, terms{sign(d, b), b, c}},
		{"the key of the seal out of which it would come", terms{seal(b, a), seal(a, b)}, nil},
		{"keys that stay unknown", terms{seal(a, b), seal(b, c), seal(c, d), d}, nil},
		{"a key put together of parts behind", terms{seal(pair(a, b), c), b, a}, terms{c}},
		{"a key put together of parts out of seals", terms{seal(pair(a, b), c), seal(d, a), seal(e, b), d, e}, terms{a, b, c}},
		{"a key put together, a part missing", terms{seal(pair(a, b), c), seal(d, a), seal(e, b), e}, terms{b}},
		{"a key of a share that comes later", terms{seal(put, c), pair(pub(a), seal(d, b)), d}, terms{pub(a), seal(d, b), b, c}},
		{"a key of two open halves", terms{seal(put, c), pub(a), pub(b)}, nil},
		{"a key that can only be made, not had", terms{seal(hash(a), hash(b)), pair(b, a)}, terms{b, a, hash(b)}},
		{"all else ahead of a seal whose key came behind it", terms{seal(a, b), pair(a, c), pair(d, e)}, terms{a, c, d, e, b}},
		{"what was just added ahead of a seal further in front", terms{seal(a, b), pair(a, pair(d, e))}, terms{a, pair(d, e), d, e, b}},
		{"an opened seal out of another one", terms{seal(a, pair(b, c)), a, seal(text("k"), seal(a, pair(b, c)))}, terms{pair(b, c), b, c}},
	} {
		was := slices.Clone(x.list)
		if got := impl.Parts(x.list); !alike(got, append(was, x.added...)) {
			t.Errorf("%s: %s", x.name, listed(got))
		}
	}
}

func TestPartsLeavesAwayWhatIsNotOk(t *testing.T) {
	a, b := atom(1), atom(2)
	for i, bad := range append(badTerms(), pair(a, impl.Term{}), pair(impl.Term{Op: 9}, b), sign(a, atom(-1)), seal(a, share(b, a)), ring()) {
		got := impl.Parts(terms{bad, pair(b, a), bad, pair(a, a), bad})
		if want := (terms{pair(b, a), pair(a, a), b, a}); !alike(got, want) {
			t.Error("beside", i, listed(got))
		}
		if got := impl.Parts(terms{bad, bad}); len(got) != 0 {
			t.Error("of nothing but", i, len(got))
		}
		if got := impl.Parts(terms{seal(a, b), bad}); len(got) != 1 {
			t.Error("of a seal beside", i, listed(got))
		}
	}
	if got := impl.Parts(goodTerms()); !alike(got[:len(goodTerms())], goodTerms()) {
		t.Error("what is ok was left away")
	}
}

func TestPartsOfNothing(t *testing.T) {
	if len(impl.Parts(nil)) != 0 || len(impl.Parts(terms{})) != 0 || len(impl.Parts(make(terms, 0, 9))) != 0 {
		t.Error("parts of nothing")
	}
}

func TestPartsByWord(t *testing.T) {
	var d dice
	opened, most := 0, 0
	for range 3000 {
		list := d.list(5)
		got, want := impl.Parts(list), partsByWord(list)
		if !alike(got, want) {
			t.Fatalf("of %s: %s, not %s", listed(list), listed(got), listed(want))
		}
		for _, x := range got {
			if x.Op == impl.TmSeal && within(got, x.Kids[1]) {
				opened++
			}
		}
		most = max(most, len(got))
	}
	if opened < 500 || most < 20 {
		t.Error("the lists ask for too little:", opened, most)
	}
}

func TestPartsInTheList(t *testing.T) {
	for count := impl.MaxKnown - 1; count <= impl.MaxKnown+1; count++ {
		list := atoms(0, count)
		want := list[:min(count, impl.MaxKnown)]
		if got := impl.Parts(list); !alike(got, want) {
			t.Error(count, "atoms:", len(got))
		}
		if got := impl.Can(list, list[count-1]); got != (count <= impl.MaxKnown) {
			t.Error("the last one of", count, got)
		}
		if !impl.Can(list, list[impl.MaxKnown-2]) {
			t.Error("one ahead of it, of", count)
		}
		var mixed terms
		for _, x := range list {
			mixed = append(mixed, x, impl.Term{}, x, list[0], atom(-1))
		}
		if got := impl.Parts(mixed); !alike(got, want) {
			t.Error(count, "atoms, more than once, among what is not ok:", len(got))
		}
	}
	huge := atoms(0, 20000)
	if got := impl.Parts(huge); !alike(got, huge[:impl.MaxKnown]) {
		t.Error("a huge list:", len(got))
	}
}

func TestPartsByTakingApartUpToTheRoom(t *testing.T) {
	x, y, z, k := atom(1001), atom(1002), atom(1003), atom(1004)
	for _, c := range []struct {
		name   string
		behind terms
		added  terms
	}{
		{"a pair", terms{pair(x, y)}, terms{x, y}},
		{"pairs", terms{pair(x, y), pair(y, z)}, terms{x, y, z}},
		{"pairs within a pair", terms{pair(pair(x, y), pair(y, z))}, terms{pair(x, y), pair(y, z), x, y, z}},
		{"a pair, its first kid there", terms{pair(atom(0), y)}, terms{y}},
		{"a pair, its second kid there", terms{pair(x, atom(0)), sign(k, z)}, terms{x, z}},
		{"a sign", terms{sign(k, x)}, terms{x}},
		{"a seal", terms{seal(hash(atom(0)), x)}, terms{x}},
		{"a seal whose key comes later", terms{seal(k, x), pair(k, y)}, terms{k, y, x}},
		{"a seal whose key comes later, beside other things", terms{seal(k, x), pair(k, y), pair(pair(y, k), z)}, terms{k, y, pair(y, k), z, x}},
		{"seals from the last on", terms{seal(z, pair(x, y)), seal(k, z), sign(x, k)}, terms{k, z, pair(x, y), x, y}},
	} {
		for room := range len(c.added) + 2 {
			list := append(atoms(0, impl.MaxKnown-room-len(c.behind)), c.behind...)
			want := append(slices.Clone(list), c.added[:min(room, len(c.added))]...)
			got := impl.Parts(list)
			if !alike(got, want) {
				t.Errorf("%s, room for %d: %d, %s", c.name, room, len(got), listed(got[min(len(got), len(list)-1):]))
			}
			for i, part := range c.added {
				if can := impl.Can(list, part); can != madeByWord(want, part) {
					t.Errorf("%s, room for %d: the %d. can be made: %v", c.name, room, i, can)
				}
			}
		}
	}
}

func TestPartsOfGreatTermsUpToTheRoom(t *testing.T) {
	nest := func(from, count int) impl.Term {
		x := atom(from)
		for i := 1; i < count; i++ {
			x = pair(x, atom(from+i))
		}
		return x
	}
	for _, counts := range [][2]int{{100, 50}, {100, 51}, {100, 52}, {100, 100}, {51, 100}, {50, 100}} {
		list := terms{nest(0, counts[0]), nest(1000, counts[1])}
		got, want := impl.Parts(list), partsByWord(list)
		if !alike(got, want) || len(got) != min(impl.MaxKnown, 2*counts[0]+2*counts[1]-2) {
			t.Error(counts, len(got))
		}
	}
}

func TestPartsThatNothingMoreFits(t *testing.T) {
	k, x := atom(1001), atom(1002)
	list := append(terms{seal(k, x)}, atoms(0, impl.MaxKnown-1)...)
	if impl.Can(append(slices.Clone(list), k), x) || impl.Can(append(slices.Clone(list), k), k) {
		t.Error("a key that does not fit in opens")
	}
	if list := append(terms{seal(k, x), k}, atoms(0, impl.MaxKnown-2)...); impl.Can(list, x) || !impl.Can(list, k) {
		t.Error("what is sealed does not fit in, and is known")
	}
	if list := append(terms{seal(k, x), k}, atoms(0, impl.MaxKnown-3)...); !impl.Can(list, x) {
		t.Error("what is sealed fits in, and is not known")
	}
	if !impl.Can(list, hash(pair(atom(0), text("x")))) || !impl.Can(list, seal(atom(impl.MaxKnown-2), list[0])) {
		t.Error("what is put together takes no room")
	}
}

func TestMade(t *testing.T) {
	a, b, c := atom(1), atom(2), atom(3)
	for _, x := range []struct {
		name  string
		parts terms
		term  impl.Term
		want  bool
	}{
		{"a text by nothing", nil, text("a"), true},
		{"the empty text by nothing", terms{}, text(""), true},
		{"the longest text", nil, text(strings.Repeat("x", 300)), true},
		{"a text too long", nil, text(strings.Repeat("x", 301)), false},
		{"an atom by nothing", nil, a, false},
		{"an atom by itself", terms{b, a}, a, true},
		{"atom 0 by nothing", nil, atom(0), false},
		{"an atom by another one", terms{b}, a, false},
		{"an atom by a pair that holds it", terms{pair(a, b)}, a, false},
		{"an atom by a sign that holds it", terms{sign(b, a)}, a, false},
		{"an atom by a seal and its key", terms{b, seal(b, a)}, a, false},
		{"an atom by a text of its digits", terms{text("1")}, a, false},
		{"an atom by all that is of it", terms{pub(a), hash(a), share(a, a), sign(a, a), seal(a, a), pair(a, a)}, a, false},
		{"a share by itself", terms{share(a, b)}, share(a, b), true},
		{"a share by its first kid and the other's pub", terms{a, pub(b)}, share(a, b), true},
		{"a share by its second kid and the other's pub", terms{pub(a), b}, share(a, b), true},
		{"a share by both kids", terms{a, b}, share(a, b), true},
		{"a share by both pubs", terms{pub(a), pub(b)}, share(a, b), false},
		{"a share by its first kid", terms{a}, share(a, b), false},
		{"a share by its second kid", terms{b}, share(a, b), false},
		{"a share by its first kid and that one's pub", terms{a, pub(a)}, share(a, b), false},
		{"a share by its second kid and that one's pub", terms{b, pub(b)}, share(a, b), false},
		{"a share by one pub", terms{pub(b)}, share(a, b), false},
		{"a share by nothing", nil, share(a, b), false},
		{"a share by a pub of a pub", terms{a, pub(pub(b))}, share(a, b), false},
		{"a share by a hash in place of a pub", terms{a, hash(b)}, share(a, b), false},
		{"a share by another share", terms{share(a, a), share(b, b)}, share(a, b), false},
		{"a share of one and the same by it", terms{a}, share(a, a), true},
		{"a share of one and the same by its pub", terms{pub(a)}, share(a, a), false},
		{"a share by a kid that is put together", terms{a, pub(c)}, share(c, hash(a)), true},
		{"a share by pubs of kids that are put together", terms{c, pub(hash(a))}, share(c, hash(a)), true},
		{"a share by a text, and nothing of the other", nil, share(a, text("x")), false},
		{"a share by a text, and the other's pub", terms{pub(a)}, share(a, text("x")), true},
		{"a share by a text, and the other", terms{a}, share(a, text("x")), true},
		{"a share of texts", nil, share(text("x"), text("y")), true},
		{"a share within a share", terms{pub(a), b, pub(c)}, share(c, share(a, b)), true},
		{"a share within a share, one pub missing", terms{pub(a), b}, share(c, share(a, b)), false},
		{"a share within a share, by its pub", terms{pub(share(a, b)), c}, share(c, share(a, b)), true},
		{"deep, of all kinds", terms{a, b, pub(c)}, sign(a, seal(hash(pair(share(a, c), text("1"))), pair(pub(b), hash(text("z"))))), true},
		{"deep, of all kinds, one missing", terms{a, pub(b), pub(c)}, sign(a, seal(hash(pair(share(a, c), text("1"))), pair(b, hash(text("z"))))), false},
		{"whole, where none of its kids are made", terms{sign(a, hash(b))}, pair(text("x"), sign(a, hash(b))), true},
		{"its like", terms{sign(a, hash(b))}, sign(a, hash(c)), false},
	} {
		if got := impl.Made(x.parts, x.term); got != x.want {
			t.Error(x.name, got)
		}
	}
}

func TestMadeOfEachOpByItsKids(t *testing.T) {
	a, b := atom(1), atom(2)
	for op := impl.TmPair; op <= impl.TmSign; op++ {
		if op == impl.TmShare {
			continue
		}
		kids := terms{a, b}[:kidsOf(op)]
		whole := term(op, kids...)
		if impl.Made(nil, whole) || impl.Made(terms{atom(9), pub(b), hash(b)}, whole) && op != impl.TmPub {
			t.Error("op", op, "by none of its kids")
		}
		if !impl.Made(kids, whole) || !impl.Made(terms{atom(9), b, text("x"), a}, whole) {
			t.Error("op", op, "by all of its kids")
		}
		if !impl.Made(terms{atom(9), whole}, whole) {
			t.Error("op", op, "by itself")
		}
		if kidsOf(op) == 2 && (impl.Made(terms{a}, whole) || impl.Made(terms{b}, whole)) {
			t.Error("op", op, "by one of its kids")
		}
		if !impl.Made(nil, term(op, terms{text("x"), text("y")}[:kidsOf(op)]...)) {
			t.Error("op", op, "of texts")
		}
		for other := impl.TmPair; other <= impl.TmSign; other++ {
			if other != op && impl.Made(terms{term(other, kids...), term(other, kids[:1]...), term(other, a, b)}, whole) {
				t.Error("op", op, "by one of op", other)
			}
		}
	}
}

func TestMadeOfWhatIsNotOk(t *testing.T) {
	a, b := atom(3), atom(5)
	all := terms{a, b, atom(7), atom(9), atom(0), atom(1), text("s"), text("")}
	for _, bad := range badTerms() {
		if impl.Made(nil, bad) || impl.Made(all, bad) || impl.Made(terms{a, bad}, bad) || impl.Made(append(badTerms(), all...), bad) {
			t.Error("made:", shown(bad))
		}
		if impl.Made(append(slices.Clone(all), bad), pair(a, bad)) || impl.Made(terms{a, bad, pair(a, bad)}, pair(a, bad)) {
			t.Error("made with a kid that is not ok:", shown(bad))
		}
		if impl.Made(terms{bad}, a) || !impl.Made(terms{bad, a}, hash(a)) || impl.Can(terms{a, bad}, bad) {
			t.Error("what is not ok, among parts:", shown(bad))
		}
	}
	if x := ring(); impl.Made(terms{x}, x) || impl.Made(nil, x) || impl.Can(terms{x}, x) || !impl.Made(terms{x, a}, a) {
		t.Error("a term without an end")
	}
	if impl.Made(terms{share(b, a)}, share(a, b)) || impl.Made(terms{a, b}, share(b, a)) {
		t.Error("a share in the wrong order")
	}
	if !impl.Made(all, tree(impl.MaxTerm)) || impl.Made(all, tree(impl.MaxTerm+1)) {
		t.Error("at the limit")
	}
}

func TestMadeLooksAtAllParts(t *testing.T) {
	list := atoms(0, 3*impl.MaxKnown)
	for _, i := range []int{0, impl.MaxKnown - 1, impl.MaxKnown, impl.MaxKnown + 1, len(list) - 1} {
		if !impl.Made(list, list[i]) || !impl.Made(list, hash(list[i])) {
			t.Error("not made:", i)
		}
	}
	if impl.Made(list, atom(len(list))) {
		t.Error("made of others")
	}
}

func TestMadeOfSharesWithinShares(t *testing.T) {
	deep := atom(2)
	for range 99 {
		deep = share(atom(1), deep)
	}
	if !impl.TermOk(deep) {
		t.Fatal("the term is not ok")
	}
	for _, x := range []struct {
		parts terms
		want  bool
	}{
		{nil, false}, {terms{atom(1)}, false}, {terms{atom(2)}, false}, {terms{atom(1), atom(2)}, true},
		{terms{pub(atom(1)), atom(2)}, true}, {terms{atom(1), pub(atom(2))}, true}, {terms{pub(atom(1)), pub(atom(2))}, false},
		{terms{atom(1), pub(deep.Kids[1])}, true}, {terms{pub(atom(1)), deep.Kids[1]}, true}, {terms{atom(1), hash(deep.Kids[1])}, false},
	} {
		if got := impl.Made(x.parts, deep); got != x.want {
			t.Error(listed(x.parts), got)
		}
	}
}

func TestMadeAndCanByWord(t *testing.T) {
	var d dice
	made, could := 0, 0
	for range 2000 {
		list := d.list(4)
		parts := partsByWord(list)
		for range 10 {
			x := d.term(3)
			got, can := impl.Made(list, x), impl.Can(list, x)
			if got != madeByWord(list, x) {
				t.Fatal("made of", listed(list), shown(x), got)
			}
			if can != madeByWord(parts, x) || can != impl.Made(impl.Parts(list), x) {
				t.Fatal("can of", listed(list), shown(x), can)
			}
			if got {
				made++
			}
			if can && !got {
				could++
			}
		}
	}
	if made < 1000 || could < 100 {
		t.Error("the terms ask for too little:", made, could)
	}
}

func TestCan(t *testing.T) {
	k, x, y := atom(7), atom(8), atom(9)
	sealed := impl.Seal(k, 0, x)
	for _, c := range []struct {
		name string
		list terms
		term impl.Term
		want bool
	}{
		{"a text by nothing", nil, text("a"), true},
		{"an atom by nothing", nil, y, false},
		{"an atom by itself", terms{y}, y, true},
		{"out of a pair", terms{pair(x, y)}, y, true},
		{"out of a sign", terms{sign(k, y)}, y, true},
		{"the key of a sign", terms{sign(k, y)}, k, false},
		{"out of a seal", terms{sealed}, x, false},
		{"the key of a seal", terms{sealed, x}, k, false},
		{"out of a seal with its key", terms{sealed, k}, x, true},
		{"the seal itself", terms{sealed}, pair(sealed, text("x")), true},
		{"a seal of the same by its key", terms{k, x}, sealed, true},
		{"a seal by another key", terms{sealed, y, x}, impl.Seal(y, 0, x), true},
		{"a seal by a key that is not known", terms{x, sealed}, impl.Seal(k, 1, x), false},
		{"a secret by its pub", terms{pub(k)}, k, false},
		{"what was hashed", terms{hash(k)}, k, false},
		{"put together of what was taken apart", terms{pair(x, seal(x, y))}, hash(pair(y, sign(x, y))), true},
		{"what is not ok", terms{x, y}, share(y, x), false},
	} {
		if got := impl.Can(c.list, c.term); got != c.want {
			t.Error(c.name, got)
		}
	}
}

func TestWhoIsToldMoreCanMakeMore(t *testing.T) {
	var d dice
	gained := 0
	for range 1000 {
		list, more := d.list(4), d.list(4)
		at := d.below(len(list) + 1)
		all := slices.Insert(slices.Clone(list), at, more...)
		for range 10 {
			x := d.term(3)
			less, now := impl.Can(list, x), impl.Can(all, x)
			if less && !now {
				t.Fatal("lost:", shown(x), "by", listed(more), "beside", listed(list))
			}
			if now && !less {
				gained++
			}
		}
	}
	if gained < 100 {
		t.Error("the lists ask for too little:", gained)
	}
}

func TestWhatIsSealedStaysUnknown(t *testing.T) {
	e, s, body := atom(1000), atom(1001), atom(77)
	share, _ := impl.Agree(e, impl.Pub(s))
	key := impl.Hash(impl.Pair(share, text("1")))
	heard := terms{impl.Pair(text("hello"), impl.Pub(e)), impl.Pair(text("reply"), impl.Pub(s)), impl.Seal(key, 1, impl.Pair(text("body"), body)), impl.Seal(hash(key), 0, key)}
	others := append(atoms(500, 50), pub(key), hash(e), sign(e, text("x")), sign(s, pub(s)), seal(e, text("x")), hash(body), text("77"))
	if impl.Can(append(slices.Clone(heard), others...), body) {
		t.Error("known without the key")
	}
	for _, secret := range []impl.Term{e, s, share, key, pair(text("x"), e), sign(atom(1), s), hash(key)} {
		if !impl.Can(append(slices.Clone(heard), secret), body) || !impl.Can(append(terms{secret}, heard...), body) {
			t.Error("unknown, with", shown(secret))
		}
	}
	for _, secret := range []impl.Term{pub(e), hash(share), pair(share, text("1")).Kids[1], seal(body, e)} {
		if impl.Can(append(slices.Clone(heard), secret), body) {
			t.Error("known, with", shown(secret))
		}
	}
}

func TestPartsAreNewMemory(t *testing.T) {
	a, k := hash(atom(1)), pub(atom(2))
	was := terms{pair(pair(a, k), pair(a, k)), seal(k, sign(a, pair(k, hash(a)))), share(a, a), a}
	list := roomyList(was)
	first, second := impl.Parts(list), impl.Parts(list)
	want := partsByWord(was)
	for i, x := range first {
		spoil(x)
		for j := i + 1; j < len(first); j++ {
			if order(first[j], want[j]) != 0 {
				t.Error("the parts", i, "and", j, "share memory")
			}
		}
	}
	whole := first[:cap(first)]
	for i := range whole {
		whole[i] = impl.Term{Op: -9}
	}
	if !untouchedList(list, was) {
		t.Error("parts share memory with the list")
	}
	if !alike(second, want) || !alike(impl.Parts(list), want) {
		t.Error("answers share memory")
	}
}

func TestPartsHaveNoListsThatShareMemory(t *testing.T) {
	a := hash(atom(1))
	for _, x := range impl.Parts(terms{pair(pair(a, a), share(a, a)), a}) {
		if len(x.Kids) < 2 {
			continue
		}
		was := impl.TermText(x.Kids[1])
		spoil(x.Kids[0])
		if impl.TermText(x.Kids[1]) != was {
			t.Error("kids share memory:", was)
		}
	}
}

func TestWhatIsKnownIsNotWrittenInto(t *testing.T) {
	good, bad := goodTerms(), badTerms()
	for _, was := range []terms{nil, good, bad, append(slices.Clone(bad), good...), {seal(atom(2), atom(3)), pair(atom(2), seal(atom(3), atom(1)))}} {
		for _, wanted := range append(good[:20:20], bad...) {
			list, x := roomyList(was), roomy(wanted)
			impl.Parts(list)
			impl.Made(list, x)
			impl.Can(list, x)
			if !untouchedList(list, was) || !untouched(x, wanted) {
				t.Fatal("written into:", listed(was), shown(wanted))
			}
		}
	}
}
