package tests

import (
	"math"
	"testing"

	"loop.example/g00328/impl"
)

// tryByWord is what the document says of LetterTry, told apart from the program.
func tryByWord(l impl.Letter, now int) (impl.Letter, bool) {
	if !letterOkByWord(l) || l.State != 1 || now < 0 || now > 100000 || l.Next > now || l.Tries == 4 {
		return l, false
	}
	pauses := []int{20, 40, 80, 160}
	next := now + pauses[l.Tries]
	if next > 100000 {
		next = 100000
	}
	return impl.Letter{Domain: l.Domain, Body: l.Body, State: l.State, Tries: l.Tries + 1, Next: next}, true
}

func isTried(t *testing.T, l impl.Letter, now int, tries, next int) {
	t.Helper()
	want := impl.Letter{Domain: l.Domain, Body: l.Body, State: impl.LtWait, Tries: tries, Next: next}
	got, done := impl.LetterTry(l, now)
	if got != want || !done {
		t.Errorf("%+v at %d: %+v %v, wanted %+v", l, now, got, done, want)
	}
	if !impl.LetterOk(got) {
		t.Errorf("%+v at %d is not ok: %+v", l, now, got)
	}
}

func isNotTried(t *testing.T, l impl.Letter, now int) {
	t.Helper()
	if got, done := impl.LetterTry(l, now); got != l || done {
		t.Errorf("%+v at %d: %+v %v, wanted it as it was", l, now, got, done)
	}
}

func TestLetterTryAtEachTries(t *testing.T) {
	for tries, pause := range []int{20, 40, 80, 160} {
		for _, next := range []int{0, 1, 50, 99, 100} {
			isTried(t, letterOf(impl.LtWait, tries, next), 100, tries+1, 100+pause)
		}
		isTried(t, letterOf(impl.LtWait, tries, 0), 0, tries+1, pause)
		isTried(t, letterOf(impl.LtWait, tries, 0), 1, tries+1, 1+pause)
		isTried(t, letterOf(impl.LtWait, tries, 7), 12345, tries+1, 12345+pause)
	}
	for _, now := range []int{0, 50, 100, impl.MaxTime} {
		isNotTried(t, letterOf(impl.LtWait, 4, 0), now)
		isNotTried(t, letterOf(impl.LtWait, impl.MaxTries, now), now)
	}
}

func TestLetterTryLeavesTheRest(t *testing.T) {
	for _, domain := range goodDomains() {
		for _, body := range []int{0, 1, 30, impl.MaxAtom} {
			isTried(t, impl.Letter{Domain: domain, Body: body, State: impl.LtWait, Tries: 2, Next: 65}, 70, 3, 150)
		}
	}
}

func TestLetterTryUpToTheEndOfTime(t *testing.T) {
	for tries, pause := range []int{20, 40, 80, 160} {
		for _, next := range []int{0, 500, impl.MaxTime - 200} {
			l := letterOf(impl.LtWait, tries, next)
			isTried(t, l, impl.MaxTime-pause-1, tries+1, impl.MaxTime-1)
			isTried(t, l, impl.MaxTime-pause, tries+1, impl.MaxTime)
			isTried(t, l, impl.MaxTime-pause+1, tries+1, impl.MaxTime)
			isTried(t, l, impl.MaxTime-1, tries+1, impl.MaxTime)
			isTried(t, l, impl.MaxTime, tries+1, impl.MaxTime)
			isNotTried(t, l, impl.MaxTime+1)
		}
		isTried(t, letterOf(impl.LtWait, tries, impl.MaxTime), impl.MaxTime, tries+1, impl.MaxTime)
		isNotTried(t, letterOf(impl.LtWait, tries, impl.MaxTime), impl.MaxTime-1)
	}
}

func TestLetterTryAheadOfItsTime(t *testing.T) {
	for tries, pause := range []int{20, 40, 80, 160} {
		for _, next := range []int{1, 2, 50, 5000, impl.MaxTime} {
			l := letterOf(impl.LtWait, tries, next)
			isNotTried(t, l, 0)
			isNotTried(t, l, next-1)
			isTried(t, l, next, tries+1, min(next+pause, impl.MaxTime))
		}
		isTried(t, letterOf(impl.LtWait, tries, 50), 51, tries+1, 51+pause)
	}
}

func TestLetterTryAtNoTime(t *testing.T) {
	for _, l := range letters() {
		for _, now := range badUntils() {
			isNotTried(t, l, now)
		}
	}
}

func TestLetterTryOfWhatIsOver(t *testing.T) {
	for _, state := range []int{impl.LtGone, impl.LtBack} {
		for tries := range impl.MaxTries + 1 {
			for _, now := range []int{0, 49, 50, 51, impl.MaxTime} {
				isNotTried(t, letterOf(state, tries, 0), now)
				isNotTried(t, letterOf(state, tries, 50), now)
			}
		}
	}
}

func TestLetterTryOfNoLetter(t *testing.T) {
	for _, l := range badLetters() {
		for _, now := range []int{0, 50, 100, impl.MaxTime, -1, impl.MaxTime + 1, math.MinInt, math.MaxInt} {
			isNotTried(t, l, now)
		}
	}
}

// oddTimes are those at the ends, beside them, and the least and the greatest.
func oddTimes() []int {
	return []int{math.MinInt, math.MinInt + 160, -161, -1, 0, 49, 50, 51, impl.MaxTime - 160, impl.MaxTime - 1, impl.MaxTime, impl.MaxTime + 1, math.MaxInt - 160, math.MaxInt}
}

func TestLetterTryByWord(t *testing.T) {
	tried := 0
	for _, l := range oddLetters() {
		for _, now := range oddTimes() {
			want, may := tryByWord(l, now)
			got, done := impl.LetterTry(l, now)
			if got != want || done != may {
				t.Fatalf("%+v at %d: %+v %v", l, now, got, done)
			}
			if done {
				tried++
			}
		}
	}
	if tried == 0 {
		t.Error("none was tried")
	}
}
