package tests

import (
	"slices"
	"testing"

	"loop.example/g00328/impl"
)

// doneWorld has a call that is Good and at ClDone, with the body 30, and talks of
// which each got those.
func doneWorld(got ...[]int) impl.World {
	return worldWith(callsOf(callAt(impl.ClDone, 15)), func(w *impl.World) {
		w.Talks = nil
		for i, bodies := range got {
			w.Talks = append(w.Talks, impl.Talk{Host: i % 3, Server: thatGot(servers()[i%10], bodies...)})
		}
	})
}

func TestJudgeTakenByWhoGotIt(t *testing.T) {
	other := []int{29, 31, 0, 300, 3, impl.MaxAtom}
	isTaken(t, "no talks", doneWorld(), false)
	for count := 1; count <= impl.MaxTalks; count++ {
		got := make([][]int, count)
		isTaken(t, "nothing got", doneWorld(got...), false)
		for i := range got {
			got[i] = other
		}
		isTaken(t, "got by none", doneWorld(got...), false)
		for _, at := range ends(count) {
			for _, bodies := range [][]int{{30}, {30, 1}, {1, 30}, {1, 30, 2}, {30, 30}, append(slices.Clone(other), 30)} {
				w := worldWith(doneWorld(got...), func(w *impl.World) { w.Talks[at].Server.Got = bodies })
				isTaken(t, "got by one, "+at2(at), w, true)
			}
		}
	}
	full := slices.Repeat([]int{7}, 20)
	isTaken(t, "as many as there may be", doneWorld(full), false)
	isTaken(t, "the last of them", doneWorld(append(full[:19:19], 30)), true)
	isTaken(t, "the first of them", doneWorld(append([]int{30}, full[1:]...)), true)
}

// The talk may be one of any host, of any step, under seal or not.
func TestJudgeTakenByAnyTalk(t *testing.T) {
	for _, s := range servers() {
		for host := range 3 {
			w := doneWorld(nil)
			w.Talks = []impl.Talk{{Host: host, Server: thatGot(s, 30)}}
			isTaken(t, "got by any", w, true)
			for _, name := range []string{"mx.a", "m2.a", "no.host"} {
				isTaken(t, "by another host", worldWith(w, func(w *impl.World) { w.Calls[0].Client.Host, w.Talks[0].Server.Host = name, "x.y" }), true)
			}
			isTaken(t, "by a host that is lost", worldWith(w, func(w *impl.World) { w.Hosts[host].Lost = true }), true)
			w.Talks[0].Server.Got = nil
			isTaken(t, "got by none", w, false)
		}
	}
}

// Only what is both Good and at ClDone is asked.
func TestJudgeTakenAsksWhatIsGoodAndDone(t *testing.T) {
	for step := 0; step <= 11; step++ {
		for n := range 16 {
			w := worldWith(callsOf(callAt(step, n)), func(w *impl.World) { w.Talks = nil })
			right := impl.WorldOk(w)
			good := n&8 != 0
			isTaken(t, "got by none", w, right && !(good && step == impl.ClDone))
			w.Talks = []impl.Talk{{Server: thatGot(openServer(impl.SvLine), 30)}}
			isTaken(t, "got by one", w, right)
		}
	}
	isTaken(t, "no calls, no talks", bareWorld(), true)
	isTaken(t, "no calls, and got", worldWith(doneWorld([]int{7}), func(w *impl.World) { w.Calls = nil }), true)
}

// It is the body of the client that counts, not that of the letter that it is for.
func TestJudgeTakenByTheBodyOfTheClient(t *testing.T) {
	for _, body := range []int{0, 1, 29, 30, 31, 1000, 999999, impl.MaxAtom} {
		for _, got := range []int{0, 1, 29, 30, 31, 1000, 999999, impl.MaxAtom} {
			w := doneWorld([]int{7}, []int{got})
			w.Calls[0].Client.Body = body
			isTaken(t, "by its body", w, got == body)
		}
	}
}

// Each call is asked, whoever else got something: the calls may share a talk, or a
// body.
func TestJudgeTakenOfSeveralCalls(t *testing.T) {
	for got := range 8 {
		for good := range 8 {
			var calls []impl.Call
			var bodies []int
			for i := range 3 {
				c := callAt(impl.ClDone, 7|good>>i&1<<3)
				c.Client.Body = 40 + i
				calls = append(calls, c)
				if got>>i&1 == 1 {
					bodies = append(bodies, 40+i)
				}
			}
			w := callsOf(calls...)
			w.Talks = []impl.Talk{{Server: thatGot(openServer(impl.SvLine), bodies...)}}
			isTaken(t, "several", w, good&^got == 0)
			for i, body := range bodies {
				w.Talks = append(w.Talks, impl.Talk{Host: i, Server: thatGot(openServer(impl.SvFail), body)})
			}
			w.Talks = w.Talks[1:]
			isTaken(t, "a talk each", w, good&^got == 0)
		}
	}
	for count := 1; count <= impl.MaxTalks; count++ {
		w := worldWith(doneWorld([]int{30}), func(w *impl.World) { w.Calls = slices.Repeat(w.Calls, count) })
		isTaken(t, "of one body", w, true)
		for _, at := range ends(count) {
			isTaken(t, "another body "+at2(at), worldWith(w, func(w *impl.World) { w.Calls[at].Client.Body = 31 }), false)
		}
	}
}
