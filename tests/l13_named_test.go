package tests

import (
	"strings"
	"testing"

	"loop.example/g00328/impl"
)

func isNamed(t *testing.T, w impl.World, name string, want int) {
	t.Helper()
	if got := impl.HostNamed(w, name); got != want || got != namedByWord(w, name) {
		t.Errorf("%.100q: %d, wanted %d", name, got, want)
	}
}

func TestHostNamedOfEach(t *testing.T) {
	for _, w := range []impl.World{someWorld(), fullWorld(), {Hosts: someWorld().Hosts}} {
		for i, h := range w.Hosts {
			isNamed(t, w, h.Name, i)
			isNamed(t, w, strings.Clone(h.Name), i)
			for _, other := range []string{h.Name + ".", "." + h.Name, h.Name[1:], h.Name[:len(h.Name)-1], strings.ToUpper(h.Name) + "X", h.Name + "\x00", " " + h.Name, h.Name + h.Name, "*." + h.Name} {
				isNamed(t, w, other, -1)
			}
		}
	}
}

func TestHostNamedOfNone(t *testing.T) {
	for _, w := range append(worlds(), impl.World{}) {
		for _, name := range append(badHosts(), "x", "no.host", "evil.f", "", strings.Repeat("\xff", 1<<22), strings.Repeat("mx.a", 1<<20)) {
			isNamed(t, w, name, -1)
		}
	}
	for _, name := range append(goodHosts(), oddTexts()...) {
		isNamed(t, impl.World{}, name, -1)
		isNamed(t, bareWorld(), name, -1)
		isNamed(t, impl.World{Hosts: []impl.Host{}}, name, -1)
	}
	// What lies in the spare room behind the hosts is none of them.
	hosts := hostsNamed("mx.a", "m2.a", "mx.b")
	isNamed(t, impl.World{Hosts: hosts[:1]}, "m2.a", -1)
	isNamed(t, impl.World{Hosts: hosts[:0]}, "mx.a", -1)
	isNamed(t, impl.World{Hosts: hosts[1:2]}, "m2.a", 0)
}

// Of a world that is not right the number is told too; where two hosts have one
// name, that of the first.
func TestHostNamedOfWrongWorlds(t *testing.T) {
	for _, names := range [][]string{{"mx.a", "mx.a"}, {"m2.a", "mx.a", "mx.a"}, {"mx.a", "m2.a", "mx.a"}, {"x", "x", "mx.a", "", "mx.a", "", "x"}, {"", ""}, {"\xff", "\xff\xff", "\xff"}} {
		w := impl.World{Hosts: hostsNamed(names...)}
		for _, name := range append(names, "no.host", "") {
			isNamed(t, w, name, namedByWord(w, name))
		}
	}
	isNamed(t, impl.World{Hosts: hostsNamed("m2.a", "mx.a", "mx.a")}, "mx.a", 1)
	isNamed(t, impl.World{Hosts: hostsNamed("m2.a", "mx.a", "mx.a", "m2.a")}, "m2.a", 0)
	isNamed(t, impl.World{Hosts: hostsNamed("mx.a", "", "")}, "", 1)
	many := make([]string, 100000)
	many[99999] = "mx.a"
	isNamed(t, impl.World{Hosts: hostsNamed(many...)}, "mx.a", 99999)
	isNamed(t, impl.World{Hosts: hostsNamed(many...)}, "m2.a", -1)
	isNamed(t, impl.World{Hosts: hostsNamed(strings.Repeat("a", 1<<20), strings.Repeat("b", 1<<20))}, strings.Repeat("b", 1<<20), 1)
}

// Only the name counts: not a key, nor whether it is lost, nor what else there is.
func TestHostNamedByNamesAlone(t *testing.T) {
	for _, key := range append(farNumbers(), 0, 10, 999, 1000) {
		for _, lost := range []bool{false, true} {
			w := worldWith(someWorld(), func(w *impl.World) {
				w.Time, w.Fresh, w.Sure, w.Letters = key, key, key, nil
				w.Hosts[1].Key, w.Hosts[1].Lost = key, lost
			})
			isNamed(t, w, "m2.a", 1)
			isNamed(t, w, "mx.b", 2)
			isNamed(t, w, "mx.c", -1)
		}
	}
}

func TestHostNamedByWord(t *testing.T) {
	d, found := dice(135), 0
	names := []string{"mx.a", "m2.a", "mx.b", "mx", "", "a.b", "A.b"}
	for range 5000 {
		var list []string
		for range d.below(7) {
			list = append(list, oneOf(&d, names...))
		}
		w, name := impl.World{Hosts: hostsNamed(list...)}, oneOf(&d, names...)
		isNamed(t, w, name, namedByWord(w, name))
		if namedByWord(w, name) >= 0 {
			found++
		}
	}
	if found < 1000 || found > 4000 {
		t.Error("the names ask for too little:", found)
	}
}
