package tests

import (
	"math"
	"slices"
	"strings"
	"testing"

	"loop.example/g00328/impl"
)

func isRight(t *testing.T, what string, w impl.World) {
	t.Helper()
	if !impl.WorldOk(w) || !worldByWord(w) {
		t.Errorf("%s: not ok: %s", what, toldWorld(w))
	}
}

func isWrong(t *testing.T, what string, w impl.World) {
	t.Helper()
	if impl.WorldOk(w) || worldByWord(w) {
		t.Errorf("%s: ok: %s", what, toldWorld(w))
	}
}

func TestWorldConstants(t *testing.T) {
	if impl.MaxHosts != 4 || impl.MaxTalks != 12 {
		t.Error(impl.MaxHosts, impl.MaxTalks)
	}
}

func TestWorldOkOfRightWorlds(t *testing.T) {
	for _, w := range worlds() {
		isRight(t, "as it is", w)
	}
	full := fullWorld()
	if len(full.Known) != 300 || len(full.Cache) != 10 || len(full.Hosts) != 4 || len(full.Letters) != 30 || len(full.Book) != 12000 || len(full.Calls) != 12 || len(full.Talks) != 12 {
		t.Error("the full world is not full")
	}
	isWrong(t, "the zero one", impl.World{})
	// An empty list and nil are the same value.
	isRight(t, "empty lists", impl.World{Fresh: 1000, Known: terms{}, Cache: []impl.Policy{}, Hosts: []impl.Host{}, Letters: []impl.Letter{}, Calls: []impl.Call{}, Talks: []impl.Talk{}, Told: []int{}})
}

// Each part may be full or empty, whatever the others are.
func TestWorldOkOfPartsAlone(t *testing.T) {
	full := fullWorld()
	for what, turn := range map[string]func(w *impl.World){
		"time":    func(w *impl.World) { w.Time = full.Time },
		"fresh":   func(w *impl.World) { w.Fresh = full.Fresh },
		"known":   func(w *impl.World) { w.Known = full.Known },
		"cache":   func(w *impl.World) { w.Cache = full.Cache },
		"hosts":   func(w *impl.World) { w.Hosts = full.Hosts },
		"letters": func(w *impl.World) { w.Letters = full.Letters },
		"book":    func(w *impl.World) { w.Book = full.Book },
		"sure":    func(w *impl.World) { w.Book, w.Sure = full.Book, full.Sure },
		"calls":   func(w *impl.World) { w.Letters, w.Calls = full.Letters, full.Calls },
		"talks":   func(w *impl.World) { w.Hosts, w.Talks = full.Hosts, full.Talks },
		"told":    func(w *impl.World) { w.Told = full.Told },
	} {
		isRight(t, what+" alone", worldWith(bareWorld(), turn))
	}
	for what, turn := range map[string]func(w *impl.World){
		"time":    func(w *impl.World) { w.Time = 0 },
		"fresh":   func(w *impl.World) { w.Fresh = 1000 },
		"known":   func(w *impl.World) { w.Known = nil },
		"cache":   func(w *impl.World) { w.Cache = nil },
		"hosts":   func(w *impl.World) { w.Hosts, w.Talks = nil, nil },
		"letters": func(w *impl.World) { w.Letters, w.Calls = nil, nil },
		"book":    func(w *impl.World) { w.Book, w.Sure = "", 0 },
		"sure":    func(w *impl.World) { w.Sure = 0 },
		"calls":   func(w *impl.World) { w.Calls = nil },
		"talks":   func(w *impl.World) { w.Talks = nil },
		"told":    func(w *impl.World) { w.Told = nil },
	} {
		isRight(t, "without "+what, worldWith(fullWorld(), turn))
	}
}

// put is one number of a world: from where to where it may be.
type put struct {
	least, most int
	turn        func(w *impl.World, n int)
}

// worldNumbers are the numbers of w that the document gives ends, by what they are.
func worldNumbers(w impl.World) map[string]put {
	all := map[string]put{
		"time":     {0, 100000, func(w *impl.World, n int) { w.Time = n }},
		"fresh":    {1000, 999990, func(w *impl.World, n int) { w.Fresh = n }},
		"sure":     {0, len(w.Book), func(w *impl.World, n int) { w.Sure = n }},
		"one told": {0, 1000000, func(w *impl.World, n int) { w.Told = []int{n} }},
	}
	for i := range w.Hosts {
		all["key "+w.Hosts[i].Name] = put{0, 999, func(w *impl.World, n int) { w.Hosts[i].Key = n }}
	}
	for _, i := range ends(len(w.Letters)) {
		all["body "+at2(i)] = put{0, 1000000, func(w *impl.World, n int) { w.Letters[i].Body = n }}
		all["state "+at2(i)] = put{1, 3, func(w *impl.World, n int) { w.Letters[i].State = n }}
		all["tries "+at2(i)] = put{0, 4, func(w *impl.World, n int) { w.Letters[i].Tries = n }}
		all["next "+at2(i)] = put{0, 100000, func(w *impl.World, n int) { w.Letters[i].Next = n }}
	}
	for _, i := range ends(len(w.Calls)) {
		all["letter "+at2(i)] = put{0, len(w.Letters) - 1, func(w *impl.World, n int) { w.Calls[i].Letter = n }}
		all["eph "+at2(i)] = put{0, 1000000, func(w *impl.World, n int) { w.Calls[i].Client.Eph = n }}
		all["in "+at2(i)] = put{0, 100, func(w *impl.World, n int) { w.Calls[i].Client.In = n }}
	}
	for _, i := range ends(len(w.Talks)) {
		all["host "+at2(i)] = put{0, len(w.Hosts) - 1, func(w *impl.World, n int) { w.Talks[i].Host = n }}
		all["server's key "+at2(i)] = put{0, 1000000, func(w *impl.World, n int) { w.Talks[i].Server.Key = n }}
		all["out "+at2(i)] = put{0, 100, func(w *impl.World, n int) { w.Talks[i].Server.Out = n }}
	}
	return all
}

// ends are the first, the last and one between of so many places.
func ends(count int) []int {
	if count == 0 {
		return nil
	}
	return slices.Compact([]int{0, count / 2, count - 1})
}

func at2(i int) string { return "at " + string(rune('0'+i/10)) + string(rune('0'+i%10)) }

func TestWorldOkOfNumbers(t *testing.T) {
	for _, w := range worlds() {
		for what, p := range worldNumbers(w) {
			for _, n := range append(farNumbers(), 0, 1, 3, 4, 5, 99, 100, 101, 999, 1000, 1001, 99999, 100000, 100001, 999989, 999990, 999991, 1000000, 1000001, p.least, p.least-1, p.least+1, p.most, p.most-1, p.most+1) {
				got := impl.WorldOk(worldWith(w, func(w *impl.World) { p.turn(w, n) }))
				if got != (n >= p.least && n <= p.most) {
					t.Error(what, n, got)
				}
			}
		}
	}
}

func TestWorldOkByHowManyAreKnown(t *testing.T) {
	for _, w := range worlds() {
		for _, count := range []int{0, 1, 299, 300, 301, 302, 600, 100000} {
			made := worldWith(w, func(w *impl.World) { w.Known = atoms(0, count) })
			if got := impl.WorldOk(made); got != (count <= 300) {
				t.Error(count, got)
			}
		}
	}
}

func TestWorldOkOfWhatIsKnown(t *testing.T) {
	for _, x := range append(badTerms(), ring(), pair(ring(), ring()), tree(100000)) {
		for _, count := range []int{1, 2, 299, 300} {
			for _, at := range ends(count) {
				w := worldWith(someWorld(), func(w *impl.World) {
					w.Known = atoms(0, count)
					w.Known[at] = x
				})
				if impl.WorldOk(w) {
					t.Error("ok with one that is not, at", at, "of", count)
				}
			}
		}
	}
	for _, x := range goodTerms() {
		isRight(t, "known", worldWith(bareWorld(), func(w *impl.World) { w.Known = terms{x} }))
		// Nothing asks that each is there once, or that all was taken apart.
		isRight(t, "known twice", worldWith(someWorld(), func(w *impl.World) { w.Known = append(w.Known, x, x) }))
	}
}

func TestWorldOkOfCaches(t *testing.T) {
	for _, w := range worlds() {
		for count := range 14 {
			made := worldWith(w, func(w *impl.World) { w.Cache = someCache(count) })
			if got := impl.WorldOk(made); got != (count <= 10) {
				t.Error(count, "policies", got)
			}
		}
		for _, list := range append(outOfOrder(), slices.Concat(badAt(1, 0), badAt(3, 2), badAt(10, 0), badAt(10, 9))...) {
			if impl.WorldOk(worldWith(w, func(w *impl.World) { w.Cache = list })) {
				t.Error("ok:", domainsOf(list))
			}
		}
	}
	for _, p := range goodPolicies() {
		isRight(t, "one policy", worldWith(bareWorld(), func(w *impl.World) { w.Cache = []impl.Policy{p} }))
	}
}

// hostsNamed are hosts of those names, with keys from 10 on.
func hostsNamed(names ...string) []impl.Host {
	var list []impl.Host
	for i, name := range names {
		list = append(list, impl.Host{Name: name, Key: 10 + i})
	}
	return list
}

func TestWorldOkByHowManyHosts(t *testing.T) {
	for _, w := range worlds() {
		for _, count := range []int{0, 1, 2, 3, 4, 5, 6, 20} {
			made := worldWith(w, func(w *impl.World) {
				w.Talks = nil
				w.Hosts = hostsNamed(goodHosts()[:count]...)
			})
			if got := impl.WorldOk(made); got != (count <= 4) {
				t.Error(count, got)
			}
		}
		isWrong(t, "many hosts", worldWith(w, func(w *impl.World) { w.Hosts = make([]impl.Host, 100000) }))
	}
}

func TestWorldOkOfHostNames(t *testing.T) {
	for count := 1; count <= impl.MaxHosts; count++ {
		for at := range count {
			named := func(name string) impl.World {
				return worldWith(bareWorld(), func(w *impl.World) {
					w.Hosts = hostsNamed("h0.x", "h1.x", "h2.x", "h3.x")[:count]
					w.Hosts[at].Name = name
				})
			}
			for _, name := range goodHosts() {
				isRight(t, name, named(name))
			}
			for _, name := range badHosts() {
				isWrong(t, "no host", named(name))
			}
		}
	}
}

// Two hosts of one name are wrong, wherever they stand and whatever else they have.
func TestWorldOkOfHostsOfOneName(t *testing.T) {
	for count := 2; count <= impl.MaxHosts; count++ {
		for i := range count {
			for j := range i {
				for _, keys := range [][2]int{{10, 11}, {10, 10}, {0, 999}} {
					for _, lost := range []bool{false, true} {
						isWrong(t, "two of one name", worldWith(bareWorld(), func(w *impl.World) {
							w.Hosts = hostsNamed("h0.x", "h1.x", "h2.x", "h3.x")[:count]
							// In memory of its own, since it is the bytes that count.
							w.Hosts[i] = impl.Host{Name: strings.Clone(w.Hosts[j].Name), Key: keys[1], Lost: lost}
							w.Hosts[j].Key = keys[0]
						}))
					}
				}
			}
		}
	}
	for _, names := range [][]string{{"a.b", "a.b.c"}, {"a.b", "aa.b"}, {"a.b", "a.bb"}, {"a.b", "b.a"}, {"a-b.c", "a--b.c"}, {"mx.a", "m2.a"}, {"a.b", "a.a", "b.b", "b.a"}, {sixtyBytes, sixtyBytes[:59]}} {
		isRight(t, "names apart", worldWith(bareWorld(), func(w *impl.World) { w.Hosts = hostsNamed(names...) }))
	}
	// A key may be that of several, and each of them may be lost or not.
	isRight(t, "one key", worldWith(bareWorld(), func(w *impl.World) {
		w.Hosts = []impl.Host{{Name: "a.b", Key: 5}, {Name: "a.c", Key: 5, Lost: true}, {Name: "a.d", Key: 5, Lost: true}, {Name: "a.e", Key: 5}}
	}))
}

func TestWorldOkByHowManyLetters(t *testing.T) {
	for _, w := range worlds() {
		for _, count := range []int{0, 1, 29, 30, 31, 32, 45} {
			made := worldWith(w, func(w *impl.World) { w.Letters, w.Calls = slices.Repeat(letters(), 2)[:count], nil })
			if got := impl.WorldOk(made); got != (count <= 30) {
				t.Error(count, got)
			}
		}
	}
	isWrong(t, "many letters", worldWith(bareWorld(), func(w *impl.World) { w.Letters = make([]impl.Letter, 100000) }))
}

func TestWorldOkOfLetters(t *testing.T) {
	full := worldWith(bareWorld(), func(w *impl.World) { w.Letters = letters()[:impl.MaxLetters] })
	isRight(t, "nothing but letters", full)
	for _, l := range badLetters() {
		for _, at := range []int{0, 1, 29} {
			if impl.WorldOk(worldWith(full, func(w *impl.World) { w.Letters[at] = l })) {
				t.Errorf("ok with %.200v at %d", l, at)
			}
		}
	}
	for _, l := range letters() {
		isRight(t, "a letter", worldWith(someWorld(), func(w *impl.World) { w.Letters = append(w.Letters, l, l) }))
	}
}

func TestWorldOkOfBooks(t *testing.T) {
	for _, w := range worlds() {
		for _, count := range []int{0, 1, 11999, 12000, 12001, 12002, 1 << 22} {
			for _, bytes := range []string{"x", "\n", "\xff", "\x00"} {
				for _, sure := range []int{0, 1, count - 1, count, count + 1, -1, 11999, 12000, 12001, math.MinInt, math.MaxInt} {
					made := w
					made.Book, made.Sure = strings.Repeat(bytes, count), sure
					if got := impl.WorldOk(made); got != (count <= 12000 && sure >= 0 && sure <= count) {
						t.Error(count, sure, got)
					}
				}
			}
		}
	}
	// The book may be any text, and what is sure may end within a line.
	for _, s := range append(oddTexts()[:60], noLines()...) {
		for _, sure := range []int{0, len(s) / 2, len(s)} {
			isRight(t, "a book", worldWith(someWorld(), func(w *impl.World) { w.Book, w.Sure = s, sure }))
		}
	}
}

// Calls and talks have room apart from each other: there may be so many of both.
func TestWorldOkByHowManyCallsAndTalks(t *testing.T) {
	for _, w := range []impl.World{someWorld(), fullWorld()} {
		for _, calls := range []int{0, 1, 6, 11, 12, 13, 14, 24} {
			for _, talks := range []int{0, 1, 6, 11, 12, 13, 14, 24} {
				made := worldWith(w, func(w *impl.World) {
					w.Calls = slices.Repeat(w.Calls[:1], calls)
					w.Talks = slices.Repeat(w.Talks[:1], talks)
				})
				if got := impl.WorldOk(made); got != (calls <= 12 && talks <= 12) {
					t.Error(calls, talks, got)
				}
			}
		}
	}
}

func TestWorldOkOfCalls(t *testing.T) {
	for _, c := range oddClients() {
		want := clientByWord(c)
		for _, good := range []bool{false, true} {
			for _, at := range []int{0, 5, 11} {
				w := worldWith(fullWorld(), func(w *impl.World) { w.Calls[at].Client, w.Calls[at].Good = c, good })
				if impl.WorldOk(w) != want {
					t.Error(at, !want, told(c))
				}
			}
		}
	}
	// A call is of a letter that is there.
	for count := range 5 {
		for letter := -3; letter < 8; letter++ {
			for _, other := range []int{letter, 0} {
				w := worldWith(someWorld(), func(w *impl.World) {
					w.Letters = letters()[:count]
					w.Calls = []impl.Call{{Letter: other, Client: openClient(impl.ClGreet)}, {Letter: letter, Client: openClient(impl.ClGreet)}}
				})
				if got := impl.WorldOk(w); got != (letter >= 0 && letter < count) {
					t.Error(count, "letters:", letter, got)
				}
			}
		}
	}
	// Nothing asks that its host is one of the world, or its body that of its letter.
	isRight(t, "another host", worldWith(someWorld(), func(w *impl.World) { w.Calls[0].Client.Host, w.Calls[0].Client.Body = "no.host", 77 }))
}

func TestWorldOkOfTalks(t *testing.T) {
	for _, s := range oddServers() {
		want := serverByWord(s)
		for _, at := range []int{0, 5, 11} {
			w := worldWith(fullWorld(), func(w *impl.World) { w.Talks[at].Server = s })
			if impl.WorldOk(w) != want {
				t.Error(at, !want, toldServer(s))
			}
		}
	}
	// A talk is of a host that is there.
	for count := range 5 {
		for host := -3; host < 8; host++ {
			for _, other := range []int{host, 0} {
				w := worldWith(someWorld(), func(w *impl.World) {
					w.Hosts = hostsNamed("h0.x", "h1.x", "h2.x", "h3.x")[:count]
					w.Talks = []impl.Talk{{Host: other, Server: openServer(impl.SvLine)}, {Host: host, Server: openServer(impl.SvLine)}}
				})
				if got := impl.WorldOk(w); got != (host >= 0 && host < count) {
					t.Error(count, "hosts:", host, got)
				}
			}
		}
	}
	// Nothing asks that its name or its key are those of its host.
	isRight(t, "another name", worldWith(someWorld(), func(w *impl.World) { w.Talks[0].Server.Host, w.Talks[0].Server.Key = "no.host", 77 }))
}

// A call has a letter's number and a talk that of a host, not the other way round.
func TestWorldOkOfLettersForHosts(t *testing.T) {
	letter, host := impl.Call{Letter: 3, Client: openClient(impl.ClGreet)}, impl.Talk{Host: 3, Server: openServer(impl.SvLine)}
	some := worldWith(bareWorld(), func(w *impl.World) { w.Letters, w.Hosts = letters()[:4], hostsNamed("mx.a") })
	isRight(t, "a call", worldWith(some, func(w *impl.World) { w.Calls = []impl.Call{letter} }))
	isWrong(t, "a talk", worldWith(some, func(w *impl.World) { w.Talks = []impl.Talk{host} }))
	some = worldWith(bareWorld(), func(w *impl.World) { w.Letters, w.Hosts = letters()[:1], fullWorld().Hosts })
	isWrong(t, "a call", worldWith(some, func(w *impl.World) { w.Calls = []impl.Call{letter} }))
	isRight(t, "a talk", worldWith(some, func(w *impl.World) { w.Talks = []impl.Talk{host} }))
}

func TestWorldOkOfWhatIsTold(t *testing.T) {
	for _, w := range worlds() {
		for _, told := range [][]int{{}, {0}, {1000000}, {0, 1}, {0, 1000000}, {5, 6, 7}, {1, 10, 100, 1000, 10000, 100000}, {999998, 999999, 1000000}} {
			isRight(t, "told", worldWith(w, func(w *impl.World) { w.Told = told }))
		}
		for _, told := range [][]int{
			{1, 0}, {0, 0}, {7, 7}, {1000000, 1000000}, {5, 7, 6}, {6, 5, 7}, {5, 5, 6}, {5, 6, 6}, {5, 6, 5}, {3, 2, 1}, {1000000, 0},
			{-1}, {-1, 0}, {-2, -1}, {0, 1, 1000001}, {1000001}, {1000001, 1000002}, {math.MinInt, 0}, {0, math.MaxInt}, {math.MinInt}, {math.MaxInt}, {math.MinInt, math.MaxInt}, {math.MaxInt, math.MinInt},
		} {
			isWrong(t, "told", worldWith(w, func(w *impl.World) { w.Told = told }))
		}
	}
	for count := 2; count <= 40; count++ {
		for at := range count {
			list := make([]int, count)
			for i := range list {
				list[i] = 3 * i
			}
			right := worldWith(bareWorld(), func(w *impl.World) { w.Told = list })
			isRight(t, "ascending", right)
			other := (at + count/2) % count
			isWrong(t, "one twice", worldWith(right, func(w *impl.World) { w.Told[at] = w.Told[other] }))
			isWrong(t, "one below nought", worldWith(right, func(w *impl.World) { w.Told[at] = -1 }))
			isWrong(t, "one too great", worldWith(right, func(w *impl.World) { w.Told[at] = impl.MaxAtom + 1 }))
		}
	}
}

// There may be as many as there are atoms.
func TestWorldOkOfAllThatCanBeTold(t *testing.T) {
	w := bareWorld()
	for n := range impl.MaxAtom + 1 {
		w.Told = append(w.Told, n)
	}
	if !impl.WorldOk(w) {
		t.Error("all of them")
	}
	if w.Told[impl.MaxAtom-1]--; impl.WorldOk(w) {
		t.Error("one of them twice")
	}
	w.Told[impl.MaxAtom-1]++
	if w.Told = append(w.Told, impl.MaxAtom+1); impl.WorldOk(w) {
		t.Error("one more")
	}
}

// What lies in the spare room behind a list is not of it.
func TestWorldOkAsksNoSpareRoom(t *testing.T) {
	for _, w := range worlds() {
		isRight(t, "spare room", worldWith(w, func(w *impl.World) {
			w.Known = append(slices.Clip(w.Known), make(terms, 400)...)[:len(w.Known)]
			w.Cache = append(w.Cache, make([]impl.Policy, 20)...)[:len(w.Cache)]
			w.Hosts = append(w.Hosts, make([]impl.Host, 20)...)[:len(w.Hosts)]
			w.Letters = append(w.Letters, make([]impl.Letter, 40)...)[:len(w.Letters)]
			w.Calls = append(w.Calls, make([]impl.Call, 20)...)[:len(w.Calls)]
			w.Talks = append(w.Talks, make([]impl.Talk, 20)...)[:len(w.Talks)]
			w.Told = append(w.Told, -1, -1, -1)[:len(w.Told)]
		}))
	}
}

// world is right, or near to that.
func (d *dice) world() impl.World {
	w := impl.World{Time: oneOf(d, 0, 1, 40, 99999, 100000), Fresh: oneOf(d, 1000, 1001, 5000, 999989, 999990), Cache: someCache(d.below(11)), Book: strings.Repeat("gone 0\n", d.below(4))}
	for range oneOf(d, 0, 1, 5, 9) {
		w.Known = append(w.Known, d.term(d.below(4)))
	}
	w.Sure = d.below(len(w.Book) + 1)
	for _, name := range goodHosts()[:d.below(5)] {
		w.Hosts = append(w.Hosts, impl.Host{Name: name, Key: oneOf(d, 0, 10, 11, 999), Lost: d.below(2) == 0})
	}
	w.Letters = slices.Clone(letters()[:oneOf(d, 0, 1, 3, 29, 30)])
	for range min(len(w.Letters), 1) * oneOf(d, 0, 1, 2, 11, 12) {
		w.Calls = append(w.Calls, impl.Call{Letter: d.below(len(w.Letters)), Client: oneOf(d, bases()...), Good: d.below(2) == 0})
	}
	for range min(len(w.Hosts), 1) * oneOf(d, 0, 1, 2, 11, 12) {
		w.Talks = append(w.Talks, impl.Talk{Host: d.below(len(w.Hosts)), Server: d.rightServer()})
	}
	for n := d.below(1000); n < 1000 && d.below(5) > 0; n += 1 + d.below(300) {
		w.Told = append(w.Told, n)
	}
	for range d.below(3) {
		d.misled(&w)
	}
	return w
}

// misled is w with one thing turned, which may make it wrong.
func (d *dice) misled(w *impl.World) {
	number := oneOf(d, append(farNumbers(), 0, 1, 4, 30, 999, 1000, 99999, 100001, 999990, 999991, 1000000, 1000001)...)
	switch d.below(16) {
	case 0:
		w.Time = number
	case 1:
		w.Fresh = number
	case 2:
		w.Sure = oneOf(d, number, len(w.Book), len(w.Book)+1)
	case 3:
		w.Told = append(w.Told, number)
	case 4:
		w.Known = append(w.Known, oneOf(d, allTerms()...))
	case 5:
		w.Known = slices.Concat(w.Known, atoms(0, oneOf(d, 290, 295, 300)))
	case 6:
		w.Cache = d.cache()
	case 7:
		w.Hosts = append(w.Hosts, impl.Host{Name: oneOf(d, "mx.a", "m2.a", "x.y", "mx", ""), Key: oneOf(d, 0, 999, 1000, -1)})
	case 8:
		w.Hosts = w.Hosts[:d.below(len(w.Hosts)+1)]
	case 9:
		w.Letters = w.Letters[:d.below(len(w.Letters)+1)]
	case 10:
		w.Letters = append(w.Letters, oneOf(d, letters()...), oneOf(d, oddLetters()...))
	case 11:
		w.Book = strings.Repeat("x", oneOf(d, 0, 1, 11999, 12000, 12001))
	case 12:
		w.Calls = append(w.Calls, impl.Call{Letter: oneOf(d, number, 0, len(w.Letters)-1, len(w.Letters)), Client: d.client()})
	case 13:
		w.Talks = append(w.Talks, impl.Talk{Host: oneOf(d, number, 0, len(w.Hosts)-1, len(w.Hosts)), Server: d.server()})
	case 14:
		slices.Reverse(w.Told)
	case 15:
		w.Letters = append(w.Letters, letters()[:d.below(3)]...)
	}
}

func TestWorldOkByWord(t *testing.T) {
	d, ok := dice(133), 0
	for range 4000 {
		w := d.world()
		got := impl.WorldOk(w)
		if got != worldByWord(w) {
			t.Fatal(got, toldWorld(w))
		}
		if got {
			ok++
		}
	}
	if ok < 1500 || ok > 3000 {
		t.Error("the worlds ask for too little:", ok)
	}
}
