package tests

import (
	"math"
	"slices"
	"strings"
	"testing"

	"loop.example/g00328/impl"
)

func pass(a int) impl.Deed { return impl.Deed{Kind: impl.DdTime, A: a} }

func TestTimePasses(t *testing.T) {
	for _, w := range append(worlds(), newWorld()) {
		left := impl.MaxTime - w.Time
		for _, a := range []int{0, 1, 10, 40, 1000, left - 1, left} {
			if got, code := asTheWord(t, w, pass(max(a, 0))); code == impl.CdDone && got.Time != w.Time+max(a, 0) || a <= left && code != impl.CdDone {
				t.Error(a, code, got.Time)
			}
		}
		for _, a := range []int{left + 1, left + 2, impl.MaxTime + 1, 1 << 32, math.MaxInt - impl.MaxTime, math.MaxInt - 1, math.MaxInt, -1, -2, -w.Time - 1, -impl.MaxTime, -1 << 32, math.MinInt + impl.MaxTime, math.MinInt + 1, math.MinInt} {
			refuses(t, w, pass(a), impl.CdIdle)
		}
	}
	for now := range 5 {
		w := worldWith(newWorld(), func(w *impl.World) { w.Time = impl.MaxTime - now })
		for a := range 8 {
			if a > now {
				refuses(t, w, pass(a), impl.CdIdle)
			} else {
				does(t, w, pass(a), func(w *impl.World) { w.Time += a })
			}
		}
	}
	// Backwards it does not go, where there is room for it, too.
	for _, a := range []int{-1, -40, -41} {
		refuses(t, someWorld(), pass(a), impl.CdIdle)
	}
}

// spentWorld has a letter that waits of each Tries, at that Next, and others that
// are over.
func spentWorld(next int) impl.World {
	return worldWith(someWorld(), func(w *impl.World) {
		w.Letters = nil
		for _, state := range letterStates() {
			for tries := range impl.MaxTries + 1 {
				w.Letters = append(w.Letters, letterOf(state, tries, next))
			}
		}
	})
}

func TestTimeSendsBackWhatIsSpent(t *testing.T) {
	for _, next := range []int{0, 39, 40, 41, 50, 100, 1000} {
		for _, a := range []int{0, 1, 9, 10, 11, 60, 2000} {
			w := spentWorld(next)
			does(t, w, pass(a), func(w *impl.World) {
				w.Time += a
				if next <= w.Time {
					w.Letters[4].State = impl.LtBack
					w.Book += "back 4\n"
				}
			})
		}
	}
	// Whether it is spent is asked at the later time, not at the earlier one.
	w := worldWith(newWorld(), func(w *impl.World) { w.Letters = []impl.Letter{letterOf(impl.LtWait, 4, 300)} })
	got, _ := asTheWord(t, w, pass(299))
	if got.Letters[0].State != impl.LtWait || got.Book != "" {
		t.Error(got.Letters, got.Book)
	}
	if got, _ = asTheWord(t, got, pass(1)); got.Letters[0].State != impl.LtBack || got.Book != "back 0\n" || got.Sure != 0 {
		t.Error(got.Letters, got.Book, got.Sure)
	}
	// What is back is not sent back once more.
	if got, _ = asTheWord(t, got, pass(1)); got.Book != "back 0\n" {
		t.Error(got.Book)
	}
}

// Several are sent back in their order, others between them, and none of it is sure.
func TestTimeSendsBackInOrder(t *testing.T) {
	for _, spent := range [][]int{{0}, {29}, {0, 29}, {3, 4, 5}, {9, 10}, {8, 9, 10, 11}, {0, 2, 4, 6, 8, 10, 12, 14, 16, 18, 20, 22, 24, 26, 28}} {
		w := worldWith(withLetters(newWorld(), impl.MaxLetters), func(w *impl.World) { w.Book, w.Sure = "x", 1 })
		for _, i := range spent {
			w.Letters[i].Tries, w.Letters[i].Next = impl.MaxTries, 7+i%3
		}
		var notes []impl.Note
		for _, i := range spent {
			notes = append(notes, backNote(i))
		}
		got := does(t, w, pass(10), func(w *impl.World) {
			w.Time = 10
			for _, i := range spent {
				w.Letters[i].State = impl.LtBack
			}
			w.Book += journal(notes...)
		})
		if got.Sure != 1 {
			t.Error("sure:", got.Sure)
		}
	}
}

// As long as they fit, and no further: those that don't wait on.
func TestTimeSendsBackAsLongAsTheyFit(t *testing.T) {
	some := withLetters(newWorld(), impl.MaxLetters)
	spent := []int{2, 8, 9, 10, 11, 29}
	for _, i := range spent {
		some.Letters[i].Tries = impl.MaxTries
	}
	all := "back 2\nback 8\nback 9\nback 10\nback 11\nback 29\n"
	for room := range len(all) + 3 {
		w := withBook(some, impl.MaxNote-room)
		fit := strings.LastIndexByte(all[:min(room, len(all))], '\n') + 1
		done := strings.Count(all[:fit], "\n")
		does(t, w, pass(5), func(w *impl.World) {
			w.Time = 5
			w.Book += all[:fit]
			for _, i := range spent[:done] {
				w.Letters[i].State = impl.LtBack
			}
		})
	}
	// Time passes however full the book is, and what did not fit is asked again.
	w := withBook(some, impl.MaxNote)
	w, _ = asTheWord(t, w, pass(5))
	w.Book = w.Book[:impl.MaxNote-7]
	if w, code := asTheWord(t, w, pass(0)); code != impl.CdDone || w.Letters[2].State != impl.LtBack || w.Letters[8].State != impl.LtWait || w.Time != 5 {
		t.Error(code, inShort(w.Letters))
	}
}

// Only the time and what is spent turn: no policy, no call, nothing sure.
func TestTimeLeavesTheRest(t *testing.T) {
	w := worldWith(someWorld(), func(w *impl.World) { w.Letters[0].Tries, w.Letters[0].Next = 4, 45 })
	does(t, w, pass(20), func(w *impl.World) {
		w.Time = 60
		w.Letters[0].State = impl.LtBack
		w.Book += "back 0\n"
	})
	does(t, w, pass(impl.MaxTime-40), func(w *impl.World) {
		w.Time = impl.MaxTime
		w.Letters[0].State = impl.LtBack
		w.Book += "back 0\n"
	})
	want, _ := impl.Do(w, pass(20))
	d := pass(20)
	d.S, d.T = "a", atom(3)
	if got, code := impl.Do(w, d); code != impl.CdDone || !sameWorld(got, want) {
		t.Error("more than A was asked of the deed")
	}
}

// A bit at a time or all at once: in the end the same letters are back.
func TestTimeBitByBit(t *testing.T) {
	d := dice(141)
	for range 100 {
		w := withLetters(newWorld(), d.below(31))
		for i := range w.Letters {
			w.Letters[i] = letterOf(1+d.below(3), d.below(5), d.below(60))
		}
		once, _ := impl.Do(w, pass(60))
		for range 6 {
			w, _ = asTheWord(t, w, pass(10))
		}
		if !slices.Equal(w.Letters, once.Letters) || w.Time != once.Time || len(w.Book) != len(once.Book) {
			t.Error(inShort(w.Letters), inShort(once.Letters))
		}
	}
}
