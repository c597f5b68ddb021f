package tests

import (
	"math"
	"slices"
	"strings"
	"testing"

	"loop.example/g00328/impl"
)

// carrying is a letter that is carried by the document's word: the world, the deeds
// that were done for it, and how many were refused.
type carrying struct {
	world   impl.World
	done    []impl.Deed
	refused int
}

func (k *carrying) does(d impl.Deed) bool {
	next, code := deedByWord(k.world, d)
	if code != 0 {
		k.refused++
		return false
	}
	k.world, k.done = next, append(k.done, d)
	return true
}

// hands lets the last call, or the last talk, hear list, and tells what it says at
// that, and what of list it has not heard.
func (k *carrying) hands(kind int, list terms) (terms, terms) {
	var said, left terms
	for _, x := range list {
		var next terms
		d := tell(len(k.world.Calls)-1, x)
		if kind == impl.DdSay {
			d = say(len(k.world.Talks)-1, x)
			_, next = impl.ServerHear(k.world.Talks[d.A].Server, x)
		} else {
			_, next = impl.ClientHear(k.world.Calls[d.A].Client, x, k.world.Time)
		}
		if k.does(d) {
			said = append(said, next...)
		} else {
			left = append(left, x)
		}
	}
	return said, left
}

// carryByWord is what the document says of Carry, told apart from the program: what
// was refused was not heard, so that it is said again each time.
func carryByWord(w impl.World, letter, host int) (*carrying, bool) {
	if !worldByWord(w) || host < 0 || host > len(w.Hosts)-1 {
		return &carrying{}, false
	}
	k := &carrying{world: w}
	if !k.does(call(letter, w.Hosts[host].Name)) || !k.does(meet(host)) {
		return &carrying{world: w}, false
	}
	toTalk, toCall := k.hands(impl.DdTell, terms{text("220")})
	for n := 0; n < 30 && len(toTalk)+len(toCall) > 0; n++ {
		said, left := k.hands(impl.DdSay, toTalk)
		toTalk, toCall = left, append(toCall, said...)
		said, left = k.hands(impl.DdTell, toCall)
		toCall, toTalk = left, append(toTalk, said...)
	}
	return k, k.world.Letters[letter].State == 2
}

// asCarried holds Carry against the document's word.
func asCarried(t *testing.T, w impl.World, letter, host int) (impl.World, bool) {
	t.Helper()
	got, gone := impl.Carry(w, letter, host)
	want, wanted := carryByWord(w, letter, host)
	if gone != wanted || !sameWorld(got, want.world) {
		t.Errorf("%d to %d: %v, %s; wanted %v, %s", letter, host, gone, toldWorld(got), wanted, toldWorld(want.world))
	}
	return got, gone
}

// notCarried tells whether w is answered as it was, and false; noCarry whether the
// zero world is.
func notCarried(t *testing.T, what string, w impl.World, letter, host int) {
	t.Helper()
	if got, gone := asCarried(t, w, letter, host); gone || !sameWorld(got, w) {
		t.Errorf("%s: %d to %d: %v, %s; it was %s", what, letter, host, gone, toldWorld(got), toldWorld(w))
	}
}

func noCarry(t *testing.T, what string, w impl.World, letter, host int) {
	t.Helper()
	if got, gone := impl.Carry(w, letter, host); gone || !isNoWorld(got) {
		t.Errorf("%s: %d to %d: %v, %s", what, letter, host, gone, toldWorld(got))
	}
}

// overTheWire is all that is said from the greeting on, by who has those secrets, as
// it is learned.
func overTheWire(own, other int, h impl.Host, body int) []terms {
	both := share(atom(own), atom(other))
	all := []terms{
		{text("220")}, {text("ehlo")}, {text("250 starttls")}, {text("starttls")}, {text("220")}, {helloOf(atom(own))},
		{rightReply(atom(other), atom(own), atom(h.Key), lastingCert(h.Name, h.Key))}, {doneOf(both), sealedLine(both, 1, 1, text("mail"))},
	}
	for i, x := range (terms{text("rcpt"), text("data"), pair(text("body"), atom(body))}) {
		all = append(all, terms{sealedLine(both, 2, i, text([]string{"250", "250", "354"}[i]))}, terms{sealedLine(both, 1, 2+i, x)})
	}
	return append(all, terms{sealedLine(both, 2, 3, text("250"))})
}

// takenBy is w with that letter taken by that host, field by field.
func takenBy(w impl.World, letter, host int, must bool) impl.World {
	l, h := w.Letters[letter], w.Hosts[host]
	both := share(atom(w.Fresh), atom(w.Fresh+1))
	return worldWith(w, func(v *impl.World) {
		v.Fresh += 2
		v.Letters[letter] = impl.Letter{Domain: l.Domain, Body: l.Body, State: impl.LtGone, Tries: l.Tries + 1, Next: min(w.Time+[]int{20, 40, 80, 160}[l.Tries], impl.MaxTime)}
		v.Book += noteTextByWord(tryNote(letter, w.Time)) + noteTextByWord(goneNote(letter))
		client := impl.Client{Step: impl.ClDone, Host: h.Name, Must: must, Eph: w.Fresh, Body: l.Body, Share: both, In: 4, Out: 5, Tls: true, Proved: true}
		v.Calls = append(v.Calls, impl.Call{Letter: letter, Client: client, Good: must && !h.Lost})
		server := impl.Server{Step: impl.SvLine, Host: h.Name, Key: h.Key, Eph: w.Fresh + 1, Cert: lastingCert(h.Name, h.Key), Share: both, In: 5, Out: 4, Tls: true, Got: []int{l.Body}}
		v.Talks = append(v.Talks, impl.Talk{Host: host, Server: server})
		if !must || h.Lost {
			v.Told = slices.Compact(slices.Sorted(slices.Values(append(v.Told, l.Body))))
		}
		for _, said := range overTheWire(w.Fresh, w.Fresh+1, h, l.Body) {
			v.Known = partsByWord(append(v.Known, said...))
		}
	})
}

// isCarried tells whether that host takes the letter, field by field.
func isCarried(t *testing.T, w impl.World, letter, host int, must bool) impl.World {
	t.Helper()
	got, gone := asCarried(t, w, letter, host)
	if want := takenBy(w, letter, host, must); !gone || !sameWorld(got, want) {
		t.Errorf("%d to %d: %v, %s; wanted %s", letter, host, gone, toldWorld(got), toldWorld(want))
	}
	if !impl.WorldOk(got) || !worldByWord(got) {
		t.Errorf("%d to %d: not right any more: %s", letter, host, toldWorld(got))
	}
	return got
}

// mayCarry tells whether that host takes the letter where it may, and the world is as
// it was where it may not.
func mayCarry(t *testing.T, may bool, w impl.World, letter, host int, must bool) {
	t.Helper()
	if may {
		isCarried(t, w, letter, host, must)
	} else {
		notCarried(t, "may not", w, letter, host)
	}
}

func TestCarryText(t *testing.T) {
	w, _ := impl.WorldNew([]string{"mx.a", "mx.b"})
	w, _ = impl.DoAll(w, []impl.Deed{take("a"), asks(holding("a", "*.a"), 50), pass(7)})
	got, gone := impl.Carry(w, 0, 0)
	if !gone || got.Book != "take 0 a 1000\ntry 0 7\ngone 0\n" || got.Sure != 14 || got.Fresh != 1003 || got.Time != 7 || len(got.Told) != 0 {
		t.Error(gone, toldWorld(got))
	}
	if got.Letters[0] != (impl.Letter{Domain: "a", Body: 1000, State: impl.LtGone, Tries: 1, Next: 27}) {
		t.Error(got.Letters)
	}
	both := share(atom(1001), atom(1002))
	client := impl.Client{Step: 9, Host: "mx.a", Must: true, Eph: 1001, Body: 1000, Share: both, In: 4, Out: 5, Tls: true, Proved: true}
	server := impl.Server{Step: 1, Host: "mx.a", Key: 10, Eph: 1002, Cert: lastingCert("mx.a", 10), Share: both, In: 5, Out: 4, Tls: true, Got: []int{1000}}
	if len(got.Calls) != 1 || !sameCall(got.Calls[0], impl.Call{Client: client, Good: true}) || len(got.Talks) != 1 || !sameTalk(got.Talks[0], impl.Talk{Server: server}) {
		t.Error(toldWorld(got))
	}
	if impl.Made(got.Known, atom(1000)) || impl.Made(got.Known, both) || !impl.Made(got.Known, sealedLine(both, 1, 4, pair(text("body"), atom(1000)))) {
		t.Error(listed(got.Known))
	}
	// To the other one it may not, and once more there is nothing to be carried.
	notCarried(t, "the other one", w, 0, 1)
	notCarried(t, "once more", got, 0, 0)
	isCarried(t, w, 0, 0, true)
}

// What is no world is answered so, whichever letter and host are asked for.
func TestCarryInNoWorld(t *testing.T) {
	asked := 0
	for _, w := range oddWorlds() {
		if worldByWord(w) {
			continue
		}
		asked++
		for _, letter := range []int{-1, 0, 1, 99} {
			for _, host := range []int{-1, 0, 1, 99} {
				noCarry(t, "odd", w, letter, host)
			}
		}
	}
	if asked < 20 {
		t.Error("the worlds ask for too little:", asked)
	}
	for _, w := range append(worlds(), callWorld()) {
		for what, p := range worldNumbers(w) {
			for _, n := range []int{p.least - 1, p.most + 1, math.MinInt, math.MaxInt} {
				made := worldWith(w, p.to(n))
				noCarry(t, what, made, 0, 0)
				noCarry(t, what, made, len(w.Letters), 0)
			}
		}
	}
}

// noWorlds are callWorld with one thing turned that makes it none.
func noWorlds() map[string]impl.World {
	list := map[string]impl.World{"zero": {}}
	for what, turn := range map[string]func(w *impl.World){
		"a term that is none":     func(w *impl.World) { w.Known[len(w.Known)-1] = impl.Term{Op: 9} },
		"too much known":          func(w *impl.World) { w.Known = atoms(2000, 301) },
		"a policy that is none":   func(w *impl.World) { w.Cache[1].Domain = "A" },
		"policies out of order":   func(w *impl.World) { slices.Reverse(w.Cache) },
		"two hosts of one name":   func(w *impl.World) { w.Hosts[1].Name = w.Hosts[0].Name },
		"a name that is none":     func(w *impl.World) { w.Hosts[2].Name = "mx" },
		"too many hosts":          func(w *impl.World) { w.Hosts = hostsNamed("mx.a", "b.b", "c.c", "d.d", "e.e") },
		"a letter that is none":   func(w *impl.World) { w.Letters[6].Domain = "" },
		"too many letters":        func(w *impl.World) { w.Letters = slices.Repeat(w.Letters, 5) },
		"too great a book":        func(w *impl.World) { w.Book = strings.Repeat("x", impl.MaxNote+1) },
		"too much is sure":        func(w *impl.World) { w.Sure = len(w.Book) + 1 },
		"a call of no letter":     func(w *impl.World) { w.Calls = []impl.Call{{Letter: 7, Client: openClient(impl.ClGreet)}} },
		"a client that is none":   func(w *impl.World) { w.Calls = []impl.Call{{}} },
		"a talk of no host":       func(w *impl.World) { w.Talks = []impl.Talk{{Host: 3, Server: openServer(impl.SvLine)}} },
		"a server that is none":   func(w *impl.World) { w.Talks = []impl.Talk{{}} },
		"told in another order":   func(w *impl.World) { w.Told = []int{7, 6} },
		"told what is no atom":    func(w *impl.World) { w.Told = []int{impl.MaxAtom + 1} },
		"ahead of all time":       func(w *impl.World) { w.Time = -1 },
		"behind all time":         func(w *impl.World) { w.Time = impl.MaxTime + 1 },
		"a secret that is a key":  func(w *impl.World) { w.Fresh = 999 },
		"no secret that is left":  func(w *impl.World) { w.Fresh = 999991 },
		"a key that is a secret":  func(w *impl.World) { w.Hosts[0].Key = 1000 },
		"a try more than can be":  func(w *impl.World) { w.Letters[0].Tries = impl.MaxTries + 1 },
		"a state that is none":    func(w *impl.World) { w.Letters[0].State = 0 },
		"a deep term, once more":  func(w *impl.World) { w.Known = append(w.Known, tree(201)) },
		"a term without an end":   func(w *impl.World) { w.Known = append(w.Known, ring()) },
		"a call too many by one":  func(w *impl.World) { w.Calls = slices.Repeat([]impl.Call{{Client: openClient(1)}}, 13) },
		"a talk too many by one":  func(w *impl.World) { w.Talks = slices.Repeat([]impl.Talk{{Server: openServer(1)}}, 13) },
		"a server that got much":  func(w *impl.World) { w.Talks = []impl.Talk{{Server: thatGot(openServer(1), make([]int, 21)...)}} },
		"a policy too many, last": func(w *impl.World) { w.Cache = someCache(11) },
	} {
		list[what] = worldWith(callWorld(), turn)
	}
	return list
}

func TestCarryWithOneThingWrong(t *testing.T) {
	for what, w := range noWorlds() {
		for letter := range 8 {
			for host := range 4 {
				noCarry(t, what, w, letter, host)
			}
		}
	}
}

// Where there is no such host there is no world either, whatever the letter is.
func TestCarryToNoHost(t *testing.T) {
	for count := range impl.MaxHosts + 1 {
		w := worldWith(callWorld(), func(w *impl.World) { w.Hosts = hostsNamed("mx.a", "m2.a", "mx.b", "m2.b")[:count] })
		for _, host := range append(farNumbers(), count, count+1, 4, 5, 10, 1<<32, math.MinInt+1) {
			if host < 0 || host >= count {
				for _, letter := range []int{-1, 0, 4, 6, 7, math.MaxInt} {
					noCarry(t, "no host", w, letter, host)
				}
			}
		}
		for host := range count {
			isCarried(t, w, 4, host, false)
		}
	}
	noCarry(t, "bare", bareWorld(), 0, 0)
}

// Where there is no such letter the world is as it was.
func TestCarryOfNoLetter(t *testing.T) {
	for _, w := range append(worlds()[1:], newWorld(), callWorld()) {
		for _, letter := range append(farNumbers(), len(w.Letters), len(w.Letters)+1, 30, 31, 1<<32, math.MinInt+1) {
			if letter < 0 || letter >= len(w.Letters) {
				for host := range w.Hosts {
					notCarried(t, "no letter", w, letter, host)
				}
			}
		}
	}
	for count := range impl.MaxLetters + 1 {
		w := withLetters(newWorld(), count)
		notCarried(t, "one more", w, count, 0)
		notCarried(t, "one less", w, -1, 2)
		if count > 0 {
			isCarried(t, w, count-1, 1, false)
		}
	}
}

// By each policy, to each host: who may not, who must have a proof, who need not.
func TestCarryByThePolicy(t *testing.T) {
	w := worldWith(callWorld(), func(w *impl.World) { w.Hosts = hostsNamed("mx.a", "mx.b", "m2.b", "evil.e") })
	for letter := range w.Letters {
		for host := range w.Hosts {
			switch {
			case letter > 0:
				isCarried(t, w, letter, host, false)
			case host < 2:
				got := isCarried(t, w, letter, host, true)
				if !got.Calls[0].Good || len(got.Told) != 0 {
					t.Error(host, toldWorld(got))
				}
			default:
				notCarried(t, "may not", w, letter, host)
			}
		}
	}
	// Up to its end it is held, and no further.
	for until, must := range map[int]bool{0: false, 39: false, 40: true, 41: true, impl.MaxTime: true} {
		w.Cache[0].Until = until
		isCarried(t, w, 0, 1, must)
		mayCarry(t, !must, w, 0, 2, false)
	}
}

func TestCarryOfLettersThatAreNotDue(t *testing.T) {
	for _, l := range letters() {
		for _, now := range []int{0, 49, 50, 51, impl.MaxTime - 20, impl.MaxTime} {
			w := worldWith(newWorld(), func(w *impl.World) { w.Time, w.Letters = now, []impl.Letter{l} })
			mayCarry(t, l.State == impl.LtWait && l.Tries < impl.MaxTries && l.Next <= now, w, 0, 0, false)
		}
	}
}

// Calls and talks have room apart from each other; where one has none, neither is
// there behind it.
func TestCarryUpToAllCallsAndTalks(t *testing.T) {
	for _, calls := range []int{0, 1, 11, 12} {
		for _, talks := range []int{0, 1, 11, 12} {
			w := worldWith(callWorld(), func(w *impl.World) {
				w.Calls = slices.Repeat([]impl.Call{{Letter: 1, Client: openClient(impl.ClGreet)}}, calls)
				w.Talks = slices.Repeat([]impl.Talk{{Host: 1, Server: openServer(impl.SvLine)}}, talks)
			})
			mayCarry(t, calls < 12 && talks < 12, w, 0, 0, true)
		}
	}
}

// A call and a talk take a secret each: the last one is never taken.
func TestCarryUpToTheLastSecret(t *testing.T) {
	for _, fresh := range []int{1000, 5000, 999987, 999988, 999989, 999990} {
		mayCarry(t, fresh <= 999988, worldWith(callWorld(), func(w *impl.World) { w.Fresh = fresh }), 0, 0, true)
	}
}

// Where the try can't be noted nothing is done at all.
func TestCarryUpToAFullBook(t *testing.T) {
	for _, letter := range []int{0, 9, 10, 29} {
		for _, now := range []int{0, 9, 10, 100000} {
			some := worldWith(withLetters(newWorld(), impl.MaxLetters), func(w *impl.World) { w.Time = now })
			note := len(noteTextByWord(tryNote(letter, now)))
			for _, room := range []int{0, 1, note - 1} {
				notCarried(t, "no room", withBook(some, impl.MaxNote-room), letter, 0)
			}
			both := note + len(noteTextByWord(goneNote(letter)))
			for _, room := range []int{both, both + 1} {
				isCarried(t, withBook(some, impl.MaxNote-room), letter, 0, false)
			}
		}
	}
}

// Of each host the key signs, whichever it is, lost or not; and a letter to one that
// is lost was told openly, though nobody knows it.
func TestCarryToEachHost(t *testing.T) {
	for _, key := range []int{0, 1, 10, 11, 500, 501, 999} {
		for _, lost := range []bool{false, true} {
			for _, name := range []string{"mx.b", "x.a", sixtyBytes, "evil.e", "0.9"} {
				w := worldWith(callWorld(), func(w *impl.World) {
					w.Hosts[2] = impl.Host{Name: name, Key: key, Lost: lost}
					w.Cache[0].Mx = []string{"*.a", name}
				})
				for letter, must := range []bool{true, false} {
					got := isCarried(t, w, letter, 2, must)
					if told := slices.Contains(got.Told, 700+letter); told == (must && !lost) || got.Calls[0].Good == told {
						t.Error(key, lost, name, toldWorld(got))
					}
					if impl.Made(got.Known, atom(700+letter)) {
						t.Error("known:", key, lost, name, toldWorld(got))
					}
				}
			}
		}
	}
	// As DdLose makes it lost: then the key is known, too.
	w := callWorld()
	w, _ = impl.Do(w, lose(0))
	for letter, must := range []bool{true, false} {
		if got := isCarried(t, w, letter, 0, must); got.Calls[0].Good || !slices.Equal(got.Told, []int{700 + letter}) || impl.Made(got.Known, atom(700+letter)) {
			t.Error(toldWorld(got))
		}
	}
}

// Other calls, talks and letters are as they were, whatever they are.
func TestCarryAmongOthers(t *testing.T) {
	w := worldWith(someWorld(), func(w *impl.World) { w.Letters[0].Next = 40 })
	for host := range w.Hosts {
		got := isCarried(t, w, 0, host, false)
		if !slices.EqualFunc(got.Calls[:3], w.Calls, sameCall) || !slices.EqualFunc(got.Talks[:3], w.Talks, sameTalk) || got.Letters[1] != w.Letters[1] || got.Sure != w.Sure {
			t.Error(toldWorld(got))
		}
	}
	full := worldWith(fullWorld(), func(w *impl.World) {
		w.Fresh, w.Book, w.Sure, w.Calls, w.Talks = 1000, "", 0, w.Calls[:11], w.Talks[:11]
		w.Known = nil
	})
	for letter := range full.Letters {
		for host := range full.Hosts {
			l := full.Letters[letter]
			mayCarry(t, l.State == impl.LtWait && l.Tries < impl.MaxTries, full, letter, host, false)
		}
	}
}
