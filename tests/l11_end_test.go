package tests

import (
	"math"
	"testing"

	"loop.example/g00328/impl"
)

// overByWord is what the document says of LetterEnd, told apart from the program.
func overByWord(l impl.Letter, gone bool) impl.Letter {
	states := map[bool]int{true: 2, false: 3}
	if l.State == 1 {
		l.State = states[gone]
	}
	return l
}

// spentByWord is what the document says of Spent, told apart from the program.
func spentByWord(l impl.Letter, now int) bool { return l.State == 1 && l.Tries == 4 && !(l.Next > now) }

func endsAs(t *testing.T, l impl.Letter, gone bool, want impl.Letter) {
	t.Helper()
	if got := impl.LetterEnd(l, gone); got != want {
		t.Errorf("%+v, gone %v: %+v, wanted %+v", l, gone, got, want)
	}
}

func TestLetterEndOfOneThatWaits(t *testing.T) {
	for tries := range impl.MaxTries + 1 {
		for _, next := range []int{0, 1, 50, impl.MaxTime} {
			l := letterOf(impl.LtWait, tries, next)
			endsAs(t, l, true, letterOf(impl.LtGone, tries, next))
			endsAs(t, l, false, letterOf(impl.LtBack, tries, next))
		}
	}
	for _, domain := range goodDomains() {
		for _, body := range []int{0, 30, impl.MaxAtom} {
			l := impl.Letter{Domain: domain, Body: body, State: impl.LtWait, Tries: 3, Next: 65}
			endsAs(t, l, true, impl.Letter{Domain: domain, Body: body, State: impl.LtGone, Tries: 3, Next: 65})
			endsAs(t, l, false, impl.Letter{Domain: domain, Body: body, State: impl.LtBack, Tries: 3, Next: 65})
		}
	}
}

func TestLetterEndOfWhatIsOver(t *testing.T) {
	for _, l := range letters() {
		if l.State != impl.LtWait {
			endsAs(t, l, true, l)
			endsAs(t, l, false, l)
		}
	}
}

// LetterEnd asks for State alone: what is no letter and waits is ended too, and
// what does not wait is as it was, a letter or not.
func TestLetterEndOfNoLetter(t *testing.T) {
	for _, l := range badLetters() {
		for _, gone := range []bool{true, false} {
			endsAs(t, l, gone, overByWord(l, gone))
		}
	}
	for _, state := range badNumbers()["state"] {
		l := letterOf(state, 2, 50)
		endsAs(t, l, true, l)
		endsAs(t, l, false, l)
	}
	endsAs(t, impl.Letter{}, true, impl.Letter{})
	endsAs(t, impl.Letter{}, false, impl.Letter{})
}

func TestSpentAtEachTries(t *testing.T) {
	for tries := range impl.MaxTries + 1 {
		for _, next := range []int{1, 2, 50, impl.MaxTime} {
			l := letterOf(impl.LtWait, tries, next)
			all := tries == 4
			for now, want := range map[int]bool{0: false, next - 1: false, next: all, next + 1: all, next + 1000: all, -1: false, math.MinInt: false, math.MaxInt: all} {
				if got := impl.Spent(l, now); got != want {
					t.Errorf("%+v at %d: %v", l, now, got)
				}
			}
		}
		if got := impl.Spent(letterOf(impl.LtWait, tries, 0), 0); got != (tries == 4) {
			t.Error("at the beginning of time:", tries, got)
		}
	}
}

func TestSpentOfWhatIsOver(t *testing.T) {
	for _, state := range append([]int{impl.LtGone, impl.LtBack}, badNumbers()["state"]...) {
		for _, now := range oddTimes() {
			if impl.Spent(letterOf(state, impl.MaxTries, 50), now) {
				t.Error("spent:", state, now)
			}
		}
	}
}

func TestSpentOfOtherTries(t *testing.T) {
	for _, tries := range append([]int{0, 1, 2, 3}, badNumbers()["tries"]...) {
		for _, now := range oddTimes() {
			if impl.Spent(letterOf(impl.LtWait, tries, 50), now) {
				t.Error("spent:", tries, now)
			}
		}
	}
}

// Spent asks for State, Tries and Next alone.
func TestSpentOfNoLetter(t *testing.T) {
	for _, domain := range badDomains() {
		l := impl.Letter{Domain: domain, Body: -1, State: impl.LtWait, Tries: 4, Next: 50}
		if !impl.Spent(l, 50) || impl.Spent(l, 49) {
			t.Errorf("%+v", l)
		}
	}
}

func TestEndsByWord(t *testing.T) {
	spent := 0
	for _, l := range oddLetters() {
		endsAs(t, l, true, overByWord(l, true))
		endsAs(t, l, false, overByWord(l, false))
		for _, now := range oddTimes() {
			got := impl.Spent(l, now)
			if got != spentByWord(l, now) {
				t.Fatalf("%+v at %d: %v", l, now, got)
			}
			if got {
				spent++
			}
		}
	}
	if spent == 0 {
		t.Error("none was spent")
	}
}
