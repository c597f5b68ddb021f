package tests

import (
	"fmt"
	"slices"
	"strings"

	"loop.example/g00328/impl"
)

// someWorld is right, and has some of each part, none of them full.
func someWorld() impl.World {
	return impl.World{
		Time:    40,
		Fresh:   1007,
		Known:   terms{pub(atom(1)), atom(500), pair(atom(7), text("x")), seal(hash(atom(9)), atom(8)), someCert(atom(10)), text("220")},
		Cache:   someCache(3),
		Hosts:   []impl.Host{{Name: "mx.a", Key: 10}, {Name: "m2.a", Key: 11, Lost: true}, {Name: "mx.b", Key: 12}},
		Letters: []impl.Letter{letterOf(impl.LtWait, 1, 50), {Domain: "b", Body: 1004, State: impl.LtGone, Tries: 2, Next: 70}},
		Book:    journal(someNotes()...),
		Sure:    14,
		Calls:   []impl.Call{{Letter: 1, Client: mustBe(provedClient(impl.ClBody)), Good: true}, {Client: openClient(impl.ClEhlo)}, {Client: sealedClient(impl.ClMail)}},
		Talks:   []impl.Talk{{Host: 2, Server: sealedServer(impl.SvBody)}, {Server: openServer(impl.SvLine)}, {Host: 1, Server: openServer(impl.SvDone)}},
		Told:    []int{30, 1000, 1004},
	}
}

// fullWorld is right, and has as much of each part as there can be.
func fullWorld() impl.World {
	w := impl.World{
		Time:  impl.MaxTime,
		Fresh: 999990,
		Known: slices.Concat(goodTerms(), atoms(2000, impl.MaxKnown))[:impl.MaxKnown],
		Cache: someCache(impl.MaxCache),
		Book:  strings.Repeat("\xff\x00\n ", impl.MaxNote/4),
		Sure:  impl.MaxNote,
		Told:  []int{0, 1, 30, 999999, impl.MaxAtom},
	}
	for i, name := range []string{sixtyBytes, "mx.a", "0.9", "evil.e"} {
		w.Hosts = append(w.Hosts, impl.Host{Name: name, Key: []int{999, 0, 10, 10}[i], Lost: i%2 == 0})
	}
	w.Letters = slices.Clone(letters()[:impl.MaxLetters])
	for i := range impl.MaxTalks {
		w.Calls = append(w.Calls, impl.Call{Letter: i * 29 / 11, Client: bases()[3*i], Good: i%3 == 0})
		w.Talks = append(w.Talks, impl.Talk{Host: i % 4, Server: servers()[i%10]})
	}
	return w
}

// bareWorld is right, and has nothing.
func bareWorld() impl.World { return impl.World{Fresh: 1000} }

// worlds are right.
func worlds() []impl.World { return []impl.World{bareWorld(), someWorld(), fullWorld()} }

// worldWith is w with one thing turned; none of its lists is that of w.
func worldWith(w impl.World, turn func(w *impl.World)) impl.World {
	w.Known, w.Cache, w.Hosts = slices.Clone(w.Known), copied(w.Cache), slices.Clone(w.Hosts)
	w.Letters, w.Calls, w.Talks, w.Told = slices.Clone(w.Letters), slices.Clone(w.Calls), slices.Clone(w.Talks), slices.Clone(w.Told)
	turn(&w)
	return w
}

func sameCall(a, b impl.Call) bool {
	return a.Letter == b.Letter && a.Good == b.Good && sameClient(a.Client, b.Client)
}

func sameTalk(a, b impl.Talk) bool { return a.Host == b.Host && sameServer(a.Server, b.Server) }

// sameBut tells whether all but what is known is the same.
func sameBut(a, b impl.World) bool {
	return a.Time == b.Time && a.Fresh == b.Fresh && samePolicies(a.Cache, b.Cache) && slices.Equal(a.Hosts, b.Hosts) &&
		slices.Equal(a.Letters, b.Letters) && a.Book == b.Book && a.Sure == b.Sure && slices.EqualFunc(a.Calls, b.Calls, sameCall) &&
		slices.EqualFunc(a.Talks, b.Talks, sameTalk) && slices.Equal(a.Told, b.Told)
}

func sameWorld(a, b impl.World) bool { return alike(a.Known, b.Known) && sameBut(a, b) }

func isNoWorld(w impl.World) bool { return sameWorld(w, impl.World{}) }

// toldWorld is w as text, for what a test tells.
func toldWorld(w impl.World) string {
	return fmt.Sprintf("time %d fresh %d known %d: %s, cache %q, hosts %s, letters %s, book %d: %.60q, sure %d, calls %d, talks %d, told %s",
		w.Time, w.Fresh, len(w.Known), listed(w.Known), domainsOf(w.Cache), inShort(w.Hosts), inShort(w.Letters), len(w.Book), w.Book, w.Sure, len(w.Calls), len(w.Talks), inShort(w.Told))
}

// worldByWord is what the document says of WorldOk, told apart from the program.
func worldByWord(w impl.World) bool {
	names := map[string]int{}
	for _, h := range w.Hosts {
		if names[h.Name]++; names[h.Name] > 1 || !hostByWord(h.Name) || h.Key < 0 || h.Key > 999 {
			return false
		}
	}
	badTerm := func(x impl.Term) bool { return !impl.TermOk(x) }
	badLetter := func(l impl.Letter) bool { return !letterOkByWord(l) }
	badCall := func(c impl.Call) bool { return c.Letter < 0 || c.Letter > len(w.Letters)-1 || !clientByWord(c.Client) }
	badTalk := func(k impl.Talk) bool { return k.Host < 0 || k.Host > len(w.Hosts)-1 || !serverByWord(k.Server) }
	badBody := func(n int) bool { return n < 0 || n > 1000000 }
	sorted := slices.Compact(slices.Sorted(slices.Values(w.Told)))
	return w.Time >= 0 && w.Time <= 100000 && w.Fresh >= 1000 && w.Fresh <= 999990 &&
		len(w.Known) <= 300 && !slices.ContainsFunc(w.Known, badTerm) && cacheByWord(w.Cache) && len(w.Hosts) <= 4 &&
		len(w.Letters) <= 30 && !slices.ContainsFunc(w.Letters, badLetter) &&
		len(w.Book) <= 12000 && w.Sure >= 0 && w.Sure <= len(w.Book) &&
		len(w.Calls) <= 12 && !slices.ContainsFunc(w.Calls, badCall) && len(w.Talks) <= 12 && !slices.ContainsFunc(w.Talks, badTalk) &&
		slices.Equal(sorted, w.Told) && !slices.ContainsFunc(w.Told, badBody)
}

// newByWord is what the document says of WorldNew, told apart from the program.
func newByWord(names []string) (impl.World, bool) {
	cert := func(name string, key int) impl.Term {
		return certTerm(atom(1), text(name), pub(atom(key)), text("100000"))
	}
	known := terms{pub(atom(1)), atom(500), atom(501), cert("evil.e", 501)}
	w := impl.World{Fresh: 1000}
	for i, name := range names {
		if !hostByWord(name) || i > 3 || slices.Contains(names[:i], name) {
			return impl.World{}, false
		}
		w.Hosts = append(w.Hosts, impl.Host{Name: name, Key: 10 + i})
		known = append(known, pub(atom(10+i)), cert(name, 10+i))
	}
	w.Known = partsByWord(known)
	return w, true
}

// namedByWord is what the document says of HostNamed: of two of one name, the first.
func namedByWord(w impl.World, name string) int {
	for i, h := range w.Hosts {
		if h.Name == name {
			return i
		}
	}
	return -1
}
