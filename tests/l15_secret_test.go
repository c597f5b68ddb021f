package tests

import (
	"slices"
	"testing"

	"loop.example/g00328/impl"
)

// lettersWith are letters with those Bodies, and no journal of them.
func lettersWith(bodies ...int) impl.World {
	return worldWith(newWorld(), func(w *impl.World) {
		for _, body := range bodies {
			w.Letters = append(w.Letters, impl.Letter{Domain: "a", Body: body, State: impl.LtWait})
		}
	})
}

func TestJudgeSecretByWhatIsKnownAndTold(t *testing.T) {
	for _, body := range []int{0, 1, 10, 999, 1000, 1001, 999999, impl.MaxAtom} {
		w := lettersWith(body)
		known := worldWith(w, func(w *impl.World) { w.Known = append(w.Known, atom(body)) })
		isSecret(t, "not known", w, true)
		isSecret(t, "known", known, false)
		isSecret(t, "known and told", worldWith(known, func(w *impl.World) { w.Told = []int{body} }), true)
		isSecret(t, "told and not known", worldWith(w, func(w *impl.World) { w.Told = []int{body} }), true)
	}
	// The outsider's own secrets are known, and those of the hosts are not.
	isSecret(t, "the outsider's", lettersWith(500), false)
	isSecret(t, "the outsider's key", lettersWith(501), false)
	isSecret(t, "a host's key", lettersWith(10, 11, 12), true)
}

// What is put together of a body, or sealed by what is known, or what stands beside
// it in a pair that is not taken apart yet, is not the body.
func TestJudgeSecretOfWhatHoldsTheBody(t *testing.T) {
	w := lettersWith(1000)
	for _, x := range (terms{
		pub(atom(1000)), hash(atom(1000)), pair(atom(1000), atom(1000)), share(atom(500), atom(1000)), sign(atom(500), atom(1000)), seal(atom(500), atom(1000)),
		seal(atom(1000), text("x")), pair(text("body"), atom(1000)), text("1000"), text("\x031000"), atom(100), atom(10000), atom(1001), atom(999),
	}) {
		made := worldWith(w, func(w *impl.World) { w.Known = append(w.Known, x) })
		isSecret(t, "held in "+shown(x), made, true)
		// Learned, it is taken apart, as far as that goes.
		open := x.Op == impl.TmPair || x.Op == impl.TmSign || x.Op == impl.TmSeal && x.Kids[0].N == 500
		isSecret(t, "learned "+shown(x), impl.Learn(w, terms{x}), !open)
	}
}

func TestJudgeSecretByWhereItIsKnown(t *testing.T) {
	for _, count := range []int{1, 2, 3, 299, 300} {
		w := worldWith(lettersWith(1000), func(w *impl.World) { w.Known = atoms(2000, count) })
		isSecret(t, "among others", w, true)
		for _, at := range ends(count) {
			isSecret(t, "known, "+at2(at), worldWith(w, func(w *impl.World) { w.Known[at] = atom(1000) }), false)
		}
	}
	none := worldWith(lettersWith(1000, 0), func(w *impl.World) { w.Known = nil })
	isSecret(t, "nothing known", none, true)
	isSecret(t, "known twice", worldWith(none, func(w *impl.World) { w.Known = terms{atom(1000), atom(1000)} }), false)
	isSecret(t, "nothing known, all told", worldWith(none, func(w *impl.World) { w.Told = []int{0, 1000} }), true)
}

// Each letter is asked by its own Body.
func TestJudgeSecretOfSeveralLetters(t *testing.T) {
	bodies := []int{1000, 1001, 1002}
	for known := range 8 {
		for open := range 8 {
			w, want := lettersWith(bodies...), true
			for i, body := range bodies {
				if known>>i&1 == 1 {
					w.Known = append(w.Known, atom(body))
				}
				if open>>i&1 == 1 {
					w.Told = append(w.Told, body)
				}
				want = want && (known>>i&1 == 0 || open>>i&1 == 1)
			}
			isSecret(t, "several", w, want)
		}
	}
	// Two of one Body are told at once.
	w := worldWith(lettersWith(1000, 1000), func(w *impl.World) { w.Known = terms{atom(1000)} })
	isSecret(t, "two of one body", w, false)
	isSecret(t, "two of one body, told", worldWith(w, func(w *impl.World) { w.Told = []int{1000} }), true)
	// What is told and known without being a letter's is nothing to any.
	w = worldWith(lettersWith(1000), func(w *impl.World) { w.Known, w.Told = terms{atom(7)}, []int{7} })
	isSecret(t, "of no letter", w, true)
	isSecret(t, "no letters", worldWith(newWorld(), func(w *impl.World) { w.Known, w.Told = atoms(1000, 300), nil }), true)
}

func TestJudgeSecretByWhereItIsTold(t *testing.T) {
	w := worldWith(lettersWith(1000), func(w *impl.World) { w.Known = terms{atom(1000)} })
	for _, bodies := range [][]int{nil, {}, {0}, {999}, {1001}, {999, 1001}, {0, 10, 100, 10000, impl.MaxAtom}, {0, 1, 2, 3, 998, 999}} {
		isSecret(t, "told others", worldWith(w, func(w *impl.World) { w.Told = bodies }), false)
		with := slices.Sorted(slices.Values(append(slices.Clone(bodies), 1000)))
		isSecret(t, "told among others", worldWith(w, func(w *impl.World) { w.Told = with }), true)
	}
	for _, body := range []int{0, 1, 1000, 65537, 99998, 99999} {
		all := make([]int, 100000)
		for i := range all {
			all[i] = i
		}
		w := worldWith(lettersWith(body), func(w *impl.World) { w.Known, w.Told = terms{atom(body)}, all })
		isSecret(t, "told among many", w, true)
		isSecret(t, "not told among many", worldWith(w, func(w *impl.World) { w.Told = slices.Delete(w.Told, body, body+1) }), false)
	}
}

// A letter that is over is asked as one that waits; and no call is asked.
func TestJudgeSecretOfLettersOfEachState(t *testing.T) {
	for _, l := range letters() {
		w := worldWith(lettersWith(1000), func(w *impl.World) { w.Letters = append(w.Letters, l) })
		isSecret(t, "not known", w, true)
		w.Known = append(w.Known, atom(30))
		isSecret(t, "known", w, false)
		w.Told = []int{30}
		isSecret(t, "told", w, true)
	}
	for _, good := range []bool{false, true} {
		w := worldWith(lettersWith(1000), func(w *impl.World) {
			w.Calls = []impl.Call{{Client: withBody(mustBe(provedClient(impl.ClBody)), 1001), Good: good}}
			w.Known = append(w.Known, atom(1001))
		})
		isSecret(t, "the body of a call", w, true)
		isSecret(t, "of a letter of the call", worldWith(w, func(w *impl.World) { w.Calls[0].Client.Body = 1000; w.Known = append(w.Known, atom(1000)) }), false)
	}
}

func TestJudgeSecretBehindLearning(t *testing.T) {
	w := newWorld()
	for range 4 {
		w, _ = impl.Do(w, take("a"))
	}
	for i := range 4 {
		body := 1000 + i
		isSecret(t, "not learned", w, true)
		learnt := impl.Learn(w, terms{atom(body)})
		isSecret(t, "learned", learnt, false)
		learnt.Told = []int{body}
		isSecret(t, "told", learnt, true)
		learnt.Told = []int{body + 1}
		isSecret(t, "told another", learnt, false)
	}
}
