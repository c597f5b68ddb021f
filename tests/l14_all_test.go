package tests

import (
	"math"
	"slices"
	"testing"

	"loop.example/g00328/impl"
)

// allByWord is what the document says of DoAll, told apart from the program.
func allByWord(w impl.World, list []impl.Deed) (impl.World, []int) {
	if len(list) > 300 || !worldByWord(w) {
		return w, nil
	}
	var codes []int
	for _, d := range list {
		next, code := deedByWord(w, d)
		if code == 0 {
			w = next
		}
		codes = append(codes, code)
	}
	return w, codes
}

// allDone holds DoAll against the document's word.
func allDone(t *testing.T, w impl.World, list []impl.Deed) (impl.World, []int) {
	t.Helper()
	got, codes := impl.DoAll(w, list)
	if want, by := allByWord(w, list); !slices.Equal(codes, by) || !sameWorld(got, want) {
		t.Errorf("%d deeds: %v, wanted %v; %s, wanted %s", len(list), codes, by, toldWorld(got), toldWorld(want))
	}
	return got, codes
}

// someDeeds are a row in which some are refused, by each code.
func someDeeds() []impl.Deed {
	return []impl.Deed{
		take("a"), take("A"), asks(holding("a", "*.a"), 50), call(0, "mx.b"), call(0, "mx.a"), call(0, "mx.a"), call(1, "mx.a"), {Kind: 99}, {},
		tell(0, text("220")), tell(0, atom(1000)), tell(1, text("220")), meet(0), say(0, text("ehlo")), meet(9), say(0, text("x")), say(0, text("ehlo")), pass(30), pass(-1),
		tell(0, text("250")), tell(0, text("250")), settle(), call(0, "m2.a"), lose(0), lose(3), fall(0), tell(0, text("220")), take("b"), call(1, "mx.b"), {Kind: math.MinInt}, fall(-5), meet(2),
	}
}

func TestDoAllText(t *testing.T) {
	w, codes := allDone(t, newWorld(), someDeeds())
	if want := []int{0, 3, 0, 3, 0, 3, 2, 1, 1, 0, 5, 2, 0, 0, 2, 0, 3, 0, 3, 0, 3, 0, 0, 0, 2, 0, 2, 0, 0, 1, 0, 0}; !slices.Equal(codes, want) {
		t.Error(codes)
	}
	if w.Time != 30 || w.Fresh != 1007 || w.Book != "take 0 a 1000\ntry 0 0\ntake 1 b 1004\n" || w.Sure != 36 || len(w.Talks) != 2 || len(w.Calls) != 0 || !w.Hosts[0].Lost {
		t.Error(toldWorld(w))
	}
}

func TestDoAllOfNoDeed(t *testing.T) {
	for _, w := range append(worlds(), newWorld()) {
		for _, list := range [][]impl.Deed{nil, {}} {
			if got, codes := allDone(t, w, list); len(codes) != 0 || !sameWorld(got, w) {
				t.Error(codes)
			}
		}
	}
}

func TestDoAllOfOneDeed(t *testing.T) {
	w, list := deedsDone()
	for _, w := range append(worlds(), w, newWorld()) {
		for _, d := range append(slices.Concat(list, someDeeds()), oddDeeds()[:200]...) {
			got, codes := allDone(t, w, []impl.Deed{d})
			want, code := impl.Do(w, d)
			if code == impl.CdBad {
				want = w
			}
			if !slices.Equal(codes, []int{code}) || !sameWorld(got, want) {
				t.Error(toldDeed(d), codes)
			}
		}
	}
}

func TestDoAllUpToAllDeeds(t *testing.T) {
	for _, w := range []impl.World{bareWorld(), newWorld()} {
		for _, count := range []int{299, 300, 301, 302, 600, 1 << 18} {
			got, codes := impl.DoAll(w, slices.Repeat([]impl.Deed{pass(1)}, count))
			if count > 300 && (len(codes) != 0 || !sameWorld(got, w)) {
				t.Error(count, len(codes), got.Time)
			}
			if count <= 300 && (!slices.Equal(codes, make([]int, count)) || got.Time != count) {
				t.Error(count, len(codes), got.Time)
			}
		}
		// Those that are refused count, too.
		if got, codes := impl.DoAll(w, make([]impl.Deed, 300)); !slices.Equal(codes, slices.Repeat([]int{1}, 300)) || !sameWorld(got, w) {
			t.Error(codes)
		}
		if got, codes := impl.DoAll(w, append(make([]impl.Deed, 300), take("a"))); len(codes) != 0 || !sameWorld(got, w) {
			t.Error(codes)
		}
	}
}

// Do answers zero where DoAll leaves the world as it was.
func TestDoAllInNoWorld(t *testing.T) {
	asked := 0
	for _, w := range oddWorlds() {
		if worldByWord(w) {
			continue
		}
		asked++
		for _, list := range [][]impl.Deed{nil, {take("a")}, someDeeds(), make([]impl.Deed, 301)} {
			if got, codes := allDone(t, w, list); len(codes) != 0 || !sameWorld(got, w) {
				t.Error(codes, toldWorld(w))
			}
		}
	}
	if asked < 20 {
		t.Error("the worlds ask for too little:", asked)
	}
	for _, w := range worlds() {
		for what, p := range worldNumbers(w) {
			for _, n := range []int{p.least - 1, p.most + 1, math.MinInt, math.MaxInt} {
				made := worldWith(w, p.to(n))
				if got, codes := impl.DoAll(made, []impl.Deed{pass(0)}); len(codes) != 0 || !sameWorld(got, made) {
					t.Error(what, n, codes)
				}
			}
		}
	}
}

// A world may have a term of any depth, and one that has no end: it is no world,
// and is answered as it was.
func TestDoAllInWorldsOfDeepTerms(t *testing.T) {
	deep := atom(3)
	for range 100000 {
		deep = impl.Term{Op: impl.TmHash, Kids: terms{deep}}
	}
	w := worldWith(someWorld(), func(w *impl.World) { w.Known[1], w.Calls[0].Client.Share = deep, deep })
	got, codes := impl.DoAll(w, []impl.Deed{take("a")})
	if len(codes) != 0 || len(got.Known) != len(w.Known) || !impl.Same(got.Known[1], deep) || !impl.Same(got.Calls[0].Client.Share, deep) {
		t.Error(codes)
	}
	for _, x := range (terms{ring(), pair(ring(), ring())}) {
		w.Known[1], w.Calls[0].Client.Share = x, atom(3)
		got, codes := impl.DoAll(w, []impl.Deed{take("a")})
		if _, code := impl.Do(w, take("a")); code != impl.CdBad || len(codes) != 0 || len(got.Known) != len(w.Known) || got.Known[1].Op != x.Op {
			t.Error(code, codes)
		}
		if _, code := impl.Do(newWorld(), impl.Deed{Kind: impl.DdTell, T: x}); code != impl.CdNone {
			t.Error(code)
		}
	}
}

// wirePart is something that goes over the wire for w, or near to that: what is
// known, a line that a party waits for, one under a seal of the outsider, or what
// nobody said.
func (d *dice) wirePart(w impl.World) impl.Term {
	line := text(oneOf(d, "220", "250", "250", "250 starttls", "354", "ehlo", "starttls", "mail", "rcpt", "data", "quit", "done", "x"))
	switch d.below(8) {
	case 0, 1:
		return line
	case 2:
		return oneOf(d, helloOf(atom(500)), pair(text("body"), atom(501)), doneOf(share(atom(500), atom(1002))), atom(1000), atom(10))
	case 3:
		s := atom(1000 + d.below(9))
		return rightReply(atom(500), s, atom(oneOf(d, 501, 501, 10)), lastingCert(oneOf(d, "evil.e", "mx.a"), oneOf(d, 501, 10)))
	case 4:
		return sealedLine(share(atom(500), atom(1000+d.below(9))), 1+d.below(2), d.below(4), oneOf(d, line, pair(text("body"), atom(501))))
	}
	if len(w.Known) == 0 || d.below(4) == 0 {
		return d.term(3)
	}
	// Most is said of late.
	from := max(0, len(w.Known)-1-d.below(12))
	return w.Known[from+d.below(len(w.Known)-from)]
}

// lastOf is the one said last of those that begin with that word.
func lastOf(known terms, word string) impl.Term {
	for i := len(known) - 1; i >= 0; i-- {
		if x := known[i]; x.Op == impl.TmPair && order(x.Kids[0], text(word)) == 0 {
			return x
		}
	}
	return text(word)
}

// awaitedByCall is what a call waits for, as long as all goes well.
func (d *dice) awaitedByCall(w impl.World, c impl.Client) impl.Term {
	if c.Step == impl.ClReply {
		return lastOf(w.Known, "reply")
	}
	var lines []string
	for _, turn := range turnsOf(c) {
		if turn.step == c.Step {
			lines = append(lines, turn.line)
		}
	}
	return heardAs(c, oneOf(d, append(lines, "x")[0], append(lines, "x")[max(0, len(lines)-1)]))
}

// awaitedByTalk is likewise of a talk; in the open, not all that it waits for is
// told by one who waits for a seal.
func (d *dice) awaitedByTalk(w impl.World, s impl.Server) impl.Term {
	switch {
	case s.Step == impl.SvHello:
		return lastOf(w.Known, "hello")
	case s.Step == impl.SvDone:
		return doneOf(s.Share)
	case s.Step == impl.SvBody:
		for body := 1000; body < min(w.Fresh, 1030); body++ {
			if x := sentTo(s, pair(text("body"), atom(body))); impl.Made(w.Known, x) {
				return x
			}
		}
		return sentTo(s, pair(text("body"), atom(501)))
	case s.Tls:
		return sentTo(s, text([]string{"mail", "rcpt", "data"}[(s.In+2)%3]))
	}
	return text(oneOf(d, "ehlo", "starttls", "starttls", "mail", "data"))
}

// awaited is what the party of that number waits for, if there is one.
func (d *dice) awaited(w impl.World, kind, number int) impl.Term {
	switch {
	case kind == impl.DdTell && number < len(w.Calls):
		return d.awaitedByCall(w, w.Calls[number].Client)
	case kind == impl.DdSay && number < len(w.Talks):
		return d.awaitedByTalk(w, w.Talks[number].Server)
	}
	return d.wirePart(w)
}

// kindIn is of any kind; most often who is not there yet comes first, and what ends
// much is done seldom.
func (d *dice) kindIn(w impl.World) int {
	kind := oneOf(d, 1, 2, 3, 4, 4, 5, 6, 6, 6, 6, 6, 6, 6, 6, 7, 7, 7, 7, 7, 7, 7, 7, 8, 9, 10, d.below(13)-1)
	if kind >= impl.DdLose && kind <= impl.DdFall && d.below(3) > 0 {
		kind = impl.DdTell
	}
	if d.below(8) == 0 {
		return kind
	}
	if last := len(w.Calls) - 1; kind == impl.DdTell && (last < 0 || w.Calls[last].Client.Step >= impl.ClDone) {
		kind = oneOf(d, impl.DdCall, impl.DdCall, impl.DdTime)
	}
	if kind == impl.DdCall && len(w.Letters) == 0 {
		kind = impl.DdTake
	}
	if last := len(w.Talks) - 1; kind == impl.DdSay && (last < 0 || w.Talks[last].Server.Step == impl.SvFail) {
		kind = impl.DdMeet
	}
	return kind
}

// numberOf is that of one of so many, most often the last of them.
func (d *dice) numberOf(count int) int {
	if d.below(30) == 0 {
		return oneOf(d, append(farNumbers(), count, count+1)...)
	}
	return max(0, count-1-d.below(6)/4)
}

// deed is of any kind, most often one that may be done in w.
func (d *dice) deed(w impl.World) impl.Deed {
	made := impl.Deed{Kind: d.kindIn(w), A: d.below(3)}
	switch made.Kind {
	case impl.DdTake:
		made.S = oneOf(d, "a", "b", "c", "a.b")
	case impl.DdAsk:
		made = asks(impl.Policy{Domain: oneOf(d, "a", "b", "c"), Mode: oneOf(d, 0, 1, 2, 2, 2, 2), Mx: oneOf(d, []string{"*.a"}, []string{"mx.a", "*.e"})}, oneOf(d, 0, 50, 1000))
	case impl.DdTime:
		made.A = oneOf(d, 0, 1, 5, 20, 40, 80, 160, -1)
	case impl.DdCall:
		made.A, made.S = d.numberOf(len(w.Letters)), oneOf(d, "mx.a", "mx.a", "mx.a", "mx.a", "m2.a", "evil.e", "A")
	case impl.DdMeet, impl.DdLose:
		made.A = oneOf(d, 0, 0, 0, 1, 2, 3)
	case impl.DdTell:
		made.A, made.T = d.numberOf(len(w.Calls)), d.wirePart(w)
	case impl.DdSay:
		made.A, made.T = d.numberOf(len(w.Talks)), d.wirePart(w)
	case impl.DdFall:
		made.A = oneOf(d, -1, 0, 3, 8, 9, 20, 1000)
	}
	if d.below(20) > 0 && made.A >= 0 {
		made.T = d.awaited(w, made.Kind, made.A)
	}
	return made
}

// forgets tells what of was is not in is any more, though it must be: a letter, what
// is known or what was told, time or a secret.
func forgets(was, is impl.World) string {
	if len(is.Letters) < len(was.Letters) {
		return "letters"
	}
	for i, l := range was.Letters {
		if is.Letters[i].Domain != l.Domain || is.Letters[i].Body != l.Body {
			return "whose letter it is"
		}
	}
	if len(is.Known) < len(was.Known) || !alike(is.Known[:len(was.Known)], was.Known) {
		return "what is known"
	}
	for _, n := range was.Told {
		if !slices.Contains(is.Told, n) {
			return "what was told"
		}
	}
	if is.Time < was.Time || is.Fresh < was.Fresh || is.Fresh > was.Fresh+1 {
		return "the time, or the secrets"
	}
	return ""
}

// Whatever is done, one by one by the document's word: nothing is said that can't be
// made, what is refused turns nothing, letters are never forgotten, and the journal
// is theirs.
func TestWhateverIsDone(t *testing.T) {
	d := dice(142)
	codes, gone, good, told := map[[2]int]int{}, 0, 0, 0
	for range 120 {
		w := newWorld()
		for range 100 {
			made := d.deed(w)
			got, code := asTheWord(t, w, made)
			codes[[2]int{made.Kind, code}]++
			if code == impl.CdBad {
				continue
			}
			if code != impl.CdDone && !sameWorld(got, w) {
				t.Fatal("refused, and turned:", toldDeed(made), toldWorld(w))
			}
			if what := forgets(w, got); what != "" {
				t.Fatal("forgotten:", what, toldDeed(made), toldWorld(w))
			}
			says := made.Kind == impl.DdTell || made.Kind == impl.DdSay
			if says && code == impl.CdDone && !impl.Made(w.Known, made.T) {
				t.Fatal("said what can't be made:", toldDeed(made), toldWorld(w))
			}
			if made.Kind == impl.DdTell && code == impl.CdDone && got.Calls[made.A].Good && !w.Calls[made.A].Good {
				good++
			}
			list, used := impl.Notes(got.Book)
			if used != len(got.Book) || !slices.Equal(impl.Play(list), got.Letters) {
				t.Fatal("not its journal:", toldDeed(made), toldWorld(got))
			}
			w = got
		}
		for _, c := range w.Calls {
			if c.Client.Step == impl.ClDone {
				gone++
			}
		}
		told += len(w.Told)
		if t.Failed() {
			return
		}
	}
	for kind := 1; kind <= 10; kind++ {
		if codes[[2]int{kind, 0}] < 40 {
			t.Error("the deeds ask for too little:", kind, codes)
		}
	}
	if gone < 5 || good < 2 || told < 5 || codes[[2]int{6, 5}] < 40 || codes[[2]int{7, 5}] < 40 {
		t.Error("the deeds ask for too little:", gone, good, told, codes)
	}
}

// row is so many deeds, each made for what the ones ahead of it did.
func (d *dice) row(w impl.World, count int) []impl.Deed {
	var list []impl.Deed
	for range count {
		made := d.deed(w)
		if next, code := impl.Do(w, made); code == impl.CdDone {
			w = next
		}
		list = append(list, made)
	}
	return list
}

// A run is that of its two halves, wherever it is cut, and that of its deeds one by
// one.
func TestARunIsTheRunOfItsHalves(t *testing.T) {
	d := dice(143)
	for range 12 {
		list := d.row(newWorld(), 60)
		whole, codes := allDone(t, newWorld(), list)
		for at := 0; at <= len(list); at += 5 {
			w, one := impl.DoAll(newWorld(), list[:at])
			w, two := impl.DoAll(w, list[at:])
			if !sameWorld(w, whole) || !slices.Equal(slices.Concat(one, two), codes) {
				t.Error("cut at", at, one, two, codes)
			}
		}
		w := newWorld()
		for i, made := range list {
			next, code := impl.Do(w, made)
			if code != codes[i] {
				t.Error(i, code, codes[i])
			}
			if code != impl.CdBad {
				w = next
			}
		}
		if !sameWorld(w, whole) {
			t.Error("one by one:", toldWorld(w), toldWorld(whole))
		}
	}
}

// Of the row, those that were refused may be left away: the rest does the same.
func TestWhatWasRefusedMayBeLeftAway(t *testing.T) {
	d := dice(144)
	for range 12 {
		list := d.row(newWorld(), 60)
		whole, codes := impl.DoAll(newWorld(), list)
		var done []impl.Deed
		for i, code := range codes {
			if code == impl.CdDone {
				done = append(done, list[i])
			}
		}
		w, rest := impl.DoAll(newWorld(), done)
		if !sameWorld(w, whole) || !slices.Equal(rest, make([]int, len(done))) || len(done) < 12 || len(done) == len(list) {
			t.Error(len(done), rest, toldWorld(w), toldWorld(whole))
		}
	}
}

// In worlds of any kind, each deed is by the document's word.
func TestDeedsInAnyWorld(t *testing.T) {
	d, done := dice(145), 0
	for range 1500 {
		w := d.world()
		w.Known = w.Known[:min(len(w.Known), 40)]
		w.Book += oneOf(&d, "", journal(someNotes()...), "take 0 a 1000\ntry 0 5\nba")
		for range 4 {
			if got, code := asTheWord(t, w, d.deed(w)); code == impl.CdDone {
				w = got
				done++
			}
		}
		if t.Failed() {
			return
		}
	}
	if done < 1000 {
		t.Error("the worlds ask for too little:", done)
	}
}
