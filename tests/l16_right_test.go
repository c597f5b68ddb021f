package tests

import (
	"math"
	"slices"
	"testing"

	"loop.example/g00328/impl"
)

// isTakenBy tells whether what is gone by a Carry was taken by that host, and told
// openly only where nobody had to prove anything or its key was lost.
func isTakenBy(t *testing.T, was, is impl.World, letter, host int) {
	t.Helper()
	l := is.Letters[letter]
	c, k := is.Calls[len(is.Calls)-1], is.Talks[len(is.Talks)-1]
	if l.State != impl.LtGone || c.Letter != letter || c.Client.Step != impl.ClDone || k.Host != host || !slices.Equal(k.Server.Got, []int{l.Body}) {
		t.Error("not taken:", letter, host, toldWorld(is))
	}
	if !c.Client.Tls || !c.Client.Proved || !k.Server.Tls || order(c.Client.Share, k.Server.Share) != 0 {
		t.Error("not of one share:", letter, host, told(c.Client), toldServer(k.Server))
	}
	if c.Good != (c.Client.Must && !is.Hosts[host].Lost) || !slices.Contains(is.Told, l.Body) && !c.Good {
		t.Error("told, or not:", letter, host, toldWorld(is))
	}
	if !slices.Contains(was.Told, l.Body) && !impl.Made(was.Known, atom(l.Body)) && impl.Made(is.Known, atom(l.Body)) {
		t.Error("known by that:", letter, host, toldWorld(is))
	}
	if len(is.Letters) != len(was.Letters) || is.Sure != was.Sure || is.Time != was.Time || is.Fresh != was.Fresh+2 {
		t.Error("more than that turned:", letter, host, toldWorld(was), toldWorld(is))
	}
}

// What is carried is taken, and all is right behind it: in a world in which anything
// was done ahead of that, and in which anything is done behind it.
func TestWhatIsCarriedIsTaken(t *testing.T) {
	t.Parallel()
	d := dice(163)
	gone, stays, good, alls := 0, 0, 0, 0
	for i := range 80 {
		w := newWorld()
		if i%2 == 0 {
			w, _ = impl.DoAll(w, []impl.Deed{asks(holding("a", "*.a"), 100000), asks(holding("b", "*.b", "m2.a"), 100000), asks(holding("c", "mx.b"), 100000)})
		}
		for range 4 {
			w, _ = impl.DoAll(w, d.row(w, oneOf(&d, 0, 5, 10, 20, 40)))
			if d.below(2) == 0 {
				w, _ = impl.Do(w, take(oneOf(&d, "a", "b", "c")))
			}
			letter, host := d.numberOf(len(w.Letters)), d.below(3)
			is, went := asCarried(t, w, letter, host)
			asJudged(t, "carried", is, just())
			if went {
				isTakenBy(t, w, is, letter, host)
				gone++
			} else {
				stays++
			}
			if went && is.Calls[len(is.Calls)-1].Good {
				good++
			}
			if what := forgotten(w, is); what != "" {
				t.Error("forgotten:", what, toldWorld(w), toldWorld(is))
			}
			if d.below(3) == 0 {
				is = impl.CarryAll(is)
				asJudged(t, "all carried", is, just())
				alls++
			}
			if d.below(2) == 0 {
				w = is
			}
		}
		if t.Failed() {
			return
		}
	}
	if gone < 60 || stays < 60 || good < 15 || alls < 60 {
		t.Error("the deeds ask for too little:", gone, stays, good, alls)
	}
}

// forgotten tells what of was is not in is any more, though it must be.
func forgotten(was, is impl.World) string {
	// Of the secrets each of the two sides takes one.
	was.Fresh = max(was.Fresh, is.Fresh-1)
	return forgets(was, is)
}

// A letter that was carried under a policy that holds is known to nobody, whatever
// is lost afterwards, and stays gone as far as the journal is sure.
func TestACarriedLetterStaysUnknown(t *testing.T) {
	for host, name := range []string{"mx.a", "m2.a", "mx.b"} {
		w, _ := impl.DoAll(newWorld(), []impl.Deed{take("a"), asks(holding("a", "*.a", "*.b"), 50), take("b"), pass(3)})
		w, gone := asCarried(t, w, 0, host)
		if !gone || !w.Calls[0].Good || len(w.Told) != 0 {
			t.Fatal(name, toldWorld(w))
		}
		for _, list := range [][]impl.Deed{
			{lose(host)}, {lose(0), lose(1), lose(2)}, {settle(), lose(host), fall(0)}, {fall(0), lose(host)}, {fall(math.MaxInt), lose(host)}, {pass(500), lose(host), meet(host)},
		} {
			is, codes := impl.DoAll(w, list)
			if !slices.Equal(codes, make([]int, len(list))) {
				t.Error(codes)
			}
			asJudged(t, name, is, just())
			if impl.Made(is.Known, atom(1000)) || impl.Can(is.Known, atom(1000)) || len(is.Told) != 0 {
				t.Error("known:", name, listed(is.Known))
			}
			all := impl.CarryAll(is)
			asJudged(t, name, all, just())
			if impl.Made(all.Known, atom(1000)) || impl.Made(all.Known, atom(1001)) {
				t.Error("known:", name, listed(all.Known))
			}
		}
	}
}

// A letter of which the end was forgotten waits still, and is carried once more.
func TestALetterThatIsCarriedTwice(t *testing.T) {
	w, _ := impl.DoAll(newWorld(), []impl.Deed{take("a"), asks(holding("a", "*.a"), 50)})
	w = isCarried(t, w, 0, 0, true)
	w, _ = impl.Do(w, fall(0))
	w = isCarried(t, w, 0, 1, true)
	asJudged(t, "twice", w, just())
	if len(w.Calls) != 1 || len(w.Talks) != 2 || !slices.Equal(w.Talks[0].Server.Got, w.Talks[1].Server.Got) || impl.Made(w.Known, atom(1000)) {
		t.Error(toldWorld(w))
	}
	// One that was torn within its last note was tried, and waits for its next try.
	w, _ = impl.DoAll(newWorld(), []impl.Deed{take("a")})
	w = isCarried(t, w, 0, 0, false)
	w, _ = impl.Do(w, fall(len("try 0 0\ngone 0")))
	notCarried(t, "not due", w, 0, 0)
	w, _ = impl.Do(w, pass(20))
	isCarried(t, w, 0, 2, false)
}

// Who said something to the outsider's own end goes on by itself: what is carried
// takes another call and another talk.
func TestCarryBesideTheOutsider(t *testing.T) {
	w, all := evilTalk(t, newWorld())
	for i, on := range all[2:] {
		on, _ = impl.Do(on, take("b"))
		got := isCarried(t, on, 1, 2, false)
		asJudged(t, "beside", got, just())
		if !sameCall(got.Calls[0], on.Calls[0]) || len(got.Calls) != 2 {
			t.Error(i, toldWorld(got))
		}
	}
	allStay(t, "gone already", w)
	// Two that are on their way to one host, and one that is carried there.
	k := called(t, true, "mx.a").upTo(impl.ClRcpt)
	k.do(take("a"))
	k.world = isCarried(t, k.world, 1, 0, true)
	k.upTo(impl.ClDone)
	asJudged(t, "both", k.world, just())
	if !slices.Equal(k.world.Talks[0].Server.Got, []int{1000}) || len(k.world.Told) != 0 {
		t.Error(toldWorld(k.world))
	}
}
