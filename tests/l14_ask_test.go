package tests

import (
	"math"
	"slices"
	"strings"
	"testing"

	"loop.example/g00328/impl"
)

func ask(s string) impl.Deed { return impl.Deed{Kind: impl.DdAsk, S: s} }

// asks is the deed that asks for p, with that age.
func asks(p impl.Policy, age int) impl.Deed { return ask(p.Domain + " " + textByWord(p, age)) }

// holding is a policy that is held, of those patterns.
func holding(domain string, mx ...string) impl.Policy {
	return impl.Policy{Domain: domain, Mode: impl.MdHold, Mx: mx}
}

func TestAskOfEachPolicy(t *testing.T) {
	for _, now := range []int{0, 40, impl.MaxTime} {
		for _, age := range []int{0, 1, 30, impl.MaxTime - 40, impl.MaxTime - 39, impl.MaxTime} {
			for i, p := range goodPolicies() {
				w := worldWith(newWorld(), func(w *impl.World) { w.Time = now })
				if i%7 == age%7 || i < 5 {
					want := p
					want.Until = min(now+age, impl.MaxTime)
					does(t, w, asks(p, age), func(w *impl.World) { w.Cache = []impl.Policy{want} })
				}
			}
		}
	}
}

func TestAskOfNoPolicy(t *testing.T) {
	for i, p := range badPolicies() {
		// Written as if it were one: what is not PolicyOk has no text.
		s := "version: v1\nmode: hold\n"
		for _, mx := range p.Mx {
			s += "mx: " + mx + "\n"
		}
		s += "age: 3\n"
		if _, read := readByWord(p.Domain, s, 40); !read && i%3 == 0 && len(s) < 3000 {
			refuses(t, someWorld(), ask(p.Domain+" "+s), impl.CdIdle)
		}
	}
	right := textByWord(holding("a", "*.a"), 3)
	for _, s := range []string{
		"", "\n", "a", "version: v1", right[:len(right)-1], right[1:], right + "\n", right + "x", right + right, strings.ToUpper(right), strings.ReplaceAll(right, " ", ""), strings.ReplaceAll(right, "\n", "\r\n"),
		"version: v2\nmode: hold\nmx: *.a\nage: 3\n", "version: v1\nmode: held\nmx: *.a\nage: 3\n", "version: v1\nmode: hold\nage: 3\n", "version: v1\nmode: hold\nmx: *.a\nage: 03\n", "version: v1\nmode: hold\nmx: *.a\nage: -1\n", "version: v1\nmode: hold\nmx: *.a\nage: 100001\n", "version: v1\nmode: hold\nmx: *.a\nage: \n",
	} {
		for _, w := range worlds() {
			refuses(t, w, ask("a "+s), impl.CdIdle)
		}
	}
}

func TestAskByItsBlanks(t *testing.T) {
	right := textByWord(holding("a", "*.a"), 3)
	if !strings.HasPrefix(right, "version: v1\n") {
		t.Fatal(right)
	}
	for _, w := range append(worlds(), newWorld()) {
		// No blank at all, one at the head, one at the end, two.
		for _, s := range []string{"", "a", "a\n", "a" + strings.ReplaceAll(right, " ", "\t"), " " + right, " a " + right, "a ", " ", "  ", "a  " + right, "a  ", "a " + right + " ", right, "a\t" + right, "a\x00" + right, "a\u00a0" + right, "a\n " + right, "a a " + right} {
			refuses(t, w, ask(s), impl.CdIdle)
		}
	}
	got := does(t, newWorld(), ask("a "+right), func(w *impl.World) {
		w.Cache = []impl.Policy{{Domain: "a", Mode: impl.MdHold, Mx: []string{"*.a"}, Until: 3}}
	})
	if len(got.Cache) != 1 {
		t.Error(got.Cache)
	}
}

func TestAskOfDomains(t *testing.T) {
	right := textByWord(holding("a", "*.a"), 3)
	for _, domain := range goodDomains() {
		does(t, newWorld(), ask(domain+" "+right), func(w *impl.World) {
			w.Cache = []impl.Policy{{Domain: domain, Mode: impl.MdHold, Mx: []string{"*.a"}, Until: 3}}
		})
	}
	for _, domain := range badDomains() {
		refuses(t, newWorld(), ask(domain+" "+right), impl.CdIdle)
	}
}

// Each takes its own place, or that of the one of its domain.
func TestAskInItsPlace(t *testing.T) {
	for count := range impl.MaxCache + 1 {
		w := worldWith(someWorld(), func(w *impl.World) { w.Cache = someCache(count) })
		for _, domain := range append(inOrder(14), "zzz") {
			p := impl.Policy{Domain: domain, Mode: impl.MdTest, Mx: []string{"mx.z"}, Until: 47}
			at, there := slices.BinarySearch(inOrder(count), domain)
			switch {
			case there:
				does(t, w, asks(p, 7), func(w *impl.World) { w.Cache[at] = p })
			case count == impl.MaxCache:
				refuses(t, w, asks(p, 7), impl.CdFull)
			default:
				does(t, w, asks(p, 7), func(w *impl.World) { w.Cache = slices.Insert(w.Cache, at, p) })
			}
		}
	}
}

// What is over keeps its place: nothing is dropped to make room.
func TestAskBesideWhatIsOver(t *testing.T) {
	w := worldWith(someWorld(), func(w *impl.World) { w.Time, w.Cache = 50000, someCache(impl.MaxCache) })
	refuses(t, w, asks(holding("c", "*.a"), 3), impl.CdFull)
	w.Cache = w.Cache[:2]
	got, code := asTheWord(t, w, asks(holding("c", "*.a"), 3))
	if code != impl.CdDone || len(got.Cache) != 3 || got.Cache[2].Until != 50003 {
		t.Error(code, got.Cache)
	}
	// One that is over as soon as time passes takes the place of one that is not.
	w.Cache[0].Until = impl.MaxTime
	if got, _ = asTheWord(t, w, asks(impl.Policy{Domain: "a"}, 0)); got.Cache[0].Until != 50000 || got.Cache[0].Mode != impl.MdNone || got.Cache[0].Mx != nil {
		t.Error(got.Cache)
	}
}

func TestAskTellsNoPolicyFirst(t *testing.T) {
	w := worldWith(someWorld(), func(w *impl.World) { w.Cache = someCache(impl.MaxCache) })
	for _, s := range []string{"c", "c ", "c x", "C " + textByWord(holding("c", "*.a"), 3), "c" + textByWord(holding("c", "*.a"), 3)} {
		refuses(t, w, ask(s), impl.CdIdle)
	}
	refuses(t, w, asks(holding("c", "*.a"), 3), impl.CdFull)
}

// Nothing but S is asked of the deed.
func TestAskAsksForTheTextAlone(t *testing.T) {
	d := asks(holding("c", "*.a"), 3)
	want, _ := impl.Do(someWorld(), d)
	for _, a := range []int{math.MinInt, -1, 1, math.MaxInt} {
		d.A, d.T = a, atom(3)
		if got, code := impl.Do(someWorld(), d); code != impl.CdDone || !sameWorld(got, want) {
			t.Error(a, code)
		}
	}
}
