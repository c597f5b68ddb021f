package tests

import (
	"testing"

	"loop.example/g00328/impl"
)

// callsOf is a world with those calls, all of its one letter.
func callsOf(calls ...impl.Call) impl.World {
	return worldWith(newWorld(), func(w *impl.World) {
		w.Letters, w.Book = []impl.Letter{{Domain: "a", Body: 30, State: impl.LtWait}}, "take 0 a 30\n"
		w.Talks = []impl.Talk{{Server: thatGot(openServer(impl.SvLine), 30)}}
		w.Calls = calls
	})
}

// callAt is a call whose client is at that step; n tells by its bits whether it is
// Must, Tls, Proved and Good.
func callAt(step, n int) impl.Call {
	c := openClient(step)
	if n&2 != 0 {
		c = sealedClient(step)
	}
	c.Must, c.Proved = n&1 != 0, n&4 != 0
	return impl.Call{Client: c, Good: n&8 != 0}
}

// isHeldSo is whether a call of callAt is right: one that is Good must be Must; one
// that is proved without a seal, or goes on without what it must have, is no client
// at all, which makes the world wrong.
func isHeldSo(step, n int) bool {
	must, sealed, proved, good := n&1 != 0, n&2 != 0, n&4 != 0, n&8 != 0
	if step < 1 || step > 10 || proved && !sealed || good && !must {
		return false
	}
	return step < 5 || step == 10 || !must || sealed && proved
}

func TestJudgeHeldAtEachStep(t *testing.T) {
	right, wrong, noWorld := 0, 0, 0
	for step := -1; step <= 12; step++ {
		for n := range 16 {
			w := callsOf(callAt(step, n))
			isHeld(t, "at a step", w, isHeldSo(step, n))
			switch {
			case !impl.WorldOk(w):
				noWorld++
			case isHeldSo(step, n):
				right++
			default:
				wrong++
			}
		}
	}
	// Good without Must, of all else that a client may be, is what is left to judge.
	if right != 5*(3+6)+5*(3+2) || wrong != 10*3 || noWorld != 14*16-right-wrong {
		t.Error(right, wrong, noWorld)
	}
}

func TestJudgeHeldOfNoCalls(t *testing.T) {
	isHeld(t, "no calls", callsOf(), true)
	isHeld(t, "no calls, no letters", bareWorld(), true)
}

// Where the one that is wrong stands is nothing to it.
func TestJudgeHeldOfSeveralCalls(t *testing.T) {
	for _, step := range allSteps() {
		wrong, right := callAt(step, 8), callAt(step, 15)
		isHeld(t, "two that are right", callsOf(right, right), true)
		isHeld(t, "the last is wrong", callsOf(right, wrong), false)
		isHeld(t, "the first is wrong", callsOf(wrong, right), false)
		isHeld(t, "both are wrong", callsOf(wrong, wrong), false)
		for count := 1; count <= impl.MaxTalks; count++ {
			var calls []impl.Call
			for range count {
				calls = append(calls, right)
			}
			isHeld(t, "all are right", callsOf(calls...), true)
			for _, at := range ends(count) {
				isHeld(t, "wrong "+at2(at), worldWith(callsOf(calls...), func(w *impl.World) { w.Calls[at] = wrong }), false)
			}
		}
	}
}

// Neither its letter, its host or what came and went is asked, nor who else is there.
func TestJudgeHeldAsksNothingElse(t *testing.T) {
	for n, want := range map[int]bool{0: true, 2: true, 6: true, 7: true, 8: false, 10: false, 14: false, 15: true} {
		for _, turn := range []func(w *impl.World){
			func(w *impl.World) {},
			func(w *impl.World) { w.Calls[0].Client.Host = "no.host" },
			func(w *impl.World) { w.Hosts[0].Lost = true },
			func(w *impl.World) { w.Hosts, w.Talks = nil, nil },
			func(w *impl.World) { w.Letters[0].State = impl.LtBack },
			func(w *impl.World) { w.Calls[0].Client.Body = 1 },
			func(w *impl.World) { w.Calls[0].Client.In, w.Calls[0].Client.Out = 100, 100 },
			func(w *impl.World) { w.Known, w.Told = terms{atom(30)}, nil },
			func(w *impl.World) { w.Book = "x" },
			func(w *impl.World) { w.Cache = someCache(3) },
		} {
			isHeld(t, "as it is held", worldWith(callsOf(callAt(impl.ClData, n)), turn), want)
		}
	}
}
