package tests

import (
	"slices"
	"strings"
	"testing"

	"loop.example/g00328/impl"
)

// isNew holds WorldNew against the document's word, and tells whether there is such
// a world.
func isNew(t *testing.T, names ...string) bool {
	t.Helper()
	got, done := impl.WorldNew(names)
	want, wanted := newByWord(names)
	if done != wanted || !sameWorld(got, want) || impl.WorldOk(got) != wanted {
		t.Errorf("%.300q: %v, %s", names, done, toldWorld(got))
	}
	return done
}

// makes has a world, wantsNone none.
func makes(t *testing.T, names ...string) {
	t.Helper()
	if !isNew(t, names...) {
		t.Errorf("no world: %.300q", names)
	}
}

func wantsNone(t *testing.T, names ...string) {
	t.Helper()
	if got, done := impl.WorldNew(names); done || !isNoWorld(got) || isNew(t, names...) {
		t.Errorf("a world: %.300q", names)
	}
}

func TestWorldNewByHowManyNames(t *testing.T) {
	makes(t)
	for count := range 5 {
		makes(t, goodHosts()[:count]...)
	}
	for count := 5; count <= len(goodHosts()); count++ {
		wantsNone(t, goodHosts()[:count]...)
	}
	if got, done := impl.WorldNew([]string{}); !done || len(got.Hosts) != 0 {
		t.Error("of an empty list")
	}
	for _, name := range []string{"mx.a", "", strings.Repeat("a.", 1<<10)} {
		if got, done := impl.WorldNew(slices.Repeat([]string{name}, 1<<20)); done || !isNoWorld(got) {
			t.Error("of a great list")
		}
	}
}

func TestWorldNewFieldByField(t *testing.T) {
	names := []string{"mx.a", "m2.a", "mx.b", "evil.b"}
	for count := range 5 {
		w, done := impl.WorldNew(names[:count])
		if !done || !impl.WorldOk(w) {
			t.Fatal(count, done, toldWorld(w))
		}
		if w.Time != 0 || w.Fresh != 1000 || w.Book != "" || w.Sure != 0 {
			t.Error(count, toldWorld(w))
		}
		if len(w.Cache) != 0 || len(w.Letters) != 0 || len(w.Calls) != 0 || len(w.Talks) != 0 || len(w.Told) != 0 {
			t.Error(count, toldWorld(w))
		}
		want := []impl.Host{{Name: "mx.a", Key: 10}, {Name: "m2.a", Key: 11}, {Name: "mx.b", Key: 12}, {Name: "evil.b", Key: 13}}
		if !slices.Equal(w.Hosts, want[:count]) {
			t.Error(count, w.Hosts)
		}
		for i, name := range names {
			if got := impl.HostNamed(w, name); got != i && i < count || got != -1 && i >= count {
				t.Error(count, name, got)
			}
		}
	}
}

// What is known is written out here, in its order: first what is heard, then what
// the certificates are taken apart to.
func TestWorldNewKnown(t *testing.T) {
	texts := func(names ...string) []string {
		w, _ := impl.WorldNew(names)
		var list []string
		for _, x := range w.Known {
			list = append(list, impl.TermText(x))
		}
		return list
	}
	evil := "pair(<evil.e>,pair(pub(501),<100000>))"
	bare := []string{"pub(1)", "500", "501", "sign(1," + evil + ")", evil, "<evil.e>", "pair(pub(501),<100000>)", "pub(501)", "<100000>"}
	if got := texts(); !slices.Equal(got, bare) {
		t.Error(got)
	}
	first, second := "pair(<mx.a>,pair(pub(10),<100000>))", "pair(<m2.b>,pair(pub(11),<100000>))"
	one := []string{"pub(1)", "500", "501", "sign(1," + evil + ")", "pub(10)", "sign(1," + first + ")", evil, first,
		"<evil.e>", "pair(pub(501),<100000>)", "<mx.a>", "pair(pub(10),<100000>)", "pub(501)", "<100000>"}
	if got := texts("mx.a"); !slices.Equal(got, one) {
		t.Error(got)
	}
	two := []string{"pub(1)", "500", "501", "sign(1," + evil + ")", "pub(10)", "sign(1," + first + ")", "pub(11)", "sign(1," + second + ")", evil, first, second,
		"<evil.e>", "pair(pub(501),<100000>)", "<mx.a>", "pair(pub(10),<100000>)", "<m2.b>", "pair(pub(11),<100000>)", "pub(501)", "<100000>"}
	if got := texts("mx.a", "m2.b"); !slices.Equal(got, two) {
		t.Error(got)
	}
}

func TestWorldNewWhatCanBeMade(t *testing.T) {
	for count := range 5 {
		names := []string{"mx.a", "m2.a", "mx.b", sixtyBytes}[:count]
		w, _ := impl.WorldNew(names)
		cert := func(name string, key int, until int) impl.Term {
			return rightTerm(impl.Cert{Host: name, Pub: pub(atom(key)), Until: until})
		}
		isMade := func(what string, x impl.Term, want bool) {
			t.Helper()
			if got := impl.Made(w.Known, x); got != want || got != madeByWord(w.Known, x) {
				t.Error(count, what, shown(x), got)
			}
		}
		// Of all atoms it has its own two alone: no host's key, no secret to come, and
		// not what signs certificates.
		for n := range 1100 {
			isMade("an atom", atom(n), n == 500 || n == 501)
		}
		isMade("pub of who signs", pub(atom(1)), true)
		isMade("its certificate", cert("evil.e", 501, 100000), true)
		isMade("its certificate for another time", cert("evil.e", 501, 99999), false)
		isMade("its certificate with another key", cert("evil.e", 500, 100000), false)
		for i, name := range []string{"mx.a", "m2.a", "mx.b", sixtyBytes} {
			isMade("pub of a host", pub(atom(10+i)), i < count)
			isMade("a certificate", cert(name, 10+i, 100000), i < count)
			isMade("a certificate of the outsider's key", cert(name, 501, 100000), false)
			isMade("a certificate of another host's key", cert(name, 10+(i+1)%4, 100000), false)
			isMade("signed by a host", sign(atom(10+i), text("x")), false)
			isMade("a share with a host", share(atom(10+i), atom(500)), i < count)
			if got, good := impl.CertGood(cert(name, 10+i, 100000), name, 100000); !good || order(got, pub(atom(10+i))) != 0 {
				t.Error("the certificate is over:", name)
			}
		}
		isMade("signed by the outsider", sign(atom(501), text("x")), true)
		isMade("signed by the outsider's secret", sign(atom(500), text("x")), true)
		isMade("signed by who signs", sign(atom(1), text("x")), false)
	}
}

// What is known is all that can be taken apart from it.
func TestWorldNewKnowsAllParts(t *testing.T) {
	for count := range 5 {
		w, _ := impl.WorldNew(goodHosts()[:count])
		if !alike(impl.Parts(w.Known), w.Known) || !alike(partsByWord(w.Known), w.Known) {
			t.Error(count, listed(w.Known))
		}
		if again := impl.Learn(w, nil); !sameWorld(again, w) {
			t.Error(count, toldWorld(again))
		}
	}
}

func TestWorldNewOfNoHost(t *testing.T) {
	for _, name := range badHosts() {
		wantsNone(t, name)
		for count := 2; count <= 5; count++ {
			for at := range count {
				wantsNone(t, with(slices.Clone(goodHosts()[:count]), at, name)...)
			}
		}
		wantsNone(t, name, name)
	}
	for _, name := range oddTexts() {
		if got := isNew(t, "mx.a", name); got != (hostByWord(name) && name != "mx.a") {
			t.Errorf("%.100q: %v", name, got)
		}
	}
}

func TestWorldNewOfOneName(t *testing.T) {
	for _, name := range goodHosts() {
		makes(t, name)
		wantsNone(t, name, name)
		wantsNone(t, name, strings.Clone(name))
		wantsNone(t, name, name, name, name)
	}
	names := []string{"h0.x", "h1.x", "h2.x", "h3.x"}
	for count := 2; count <= 4; count++ {
		makes(t, names[:count]...)
		for i := range count {
			for j := range i {
				wantsNone(t, with(slices.Clone(names[:count]), i, names[j])...)
			}
		}
	}
}

// A name may be that of the outsider's own host: it is another one then, with a key
// and a certificate of its own beside that.
func TestWorldNewOfTheOutsidersName(t *testing.T) {
	makes(t, "evil.e")
	makes(t, "mx.a", "evil.e", "m2.a")
	w, _ := impl.WorldNew([]string{"evil.e"})
	if w.Hosts[0].Key != 10 || impl.Made(w.Known, atom(10)) || !impl.Made(w.Known, rightTerm(impl.Cert{Host: "evil.e", Pub: pub(atom(10)), Until: 100000})) {
		t.Error(toldWorld(w))
	}
}

func TestWorldNewByWord(t *testing.T) {
	d, done := dice(134), 0
	for range 3000 {
		var names []string
		for range d.below(6) {
			name := oneOf(&d, goodHosts()...)
			switch d.below(30) {
			case 0:
				name = oneOf(&d, badHosts()...)
			case 1:
				name = "mx.a"
			}
			names = append(names, name)
		}
		if isNew(t, names...) {
			done++
		}
	}
	if done < 1000 || done > 2500 {
		t.Error("the names ask for too little:", done)
	}
}
