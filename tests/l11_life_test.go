package tests

import (
	"math"
	"testing"

	"loop.example/g00328/impl"
)

// triedAt are the times at which a letter is tried that is asked at each time
// from the first to the last, and the letter behind that.
func triedAt(l impl.Letter, first, last int) ([]int, impl.Letter) {
	var times []int
	for now := first; now <= last; now++ {
		next, done := impl.LetterTry(l, now)
		if done {
			times = append(times, now)
		}
		l = next
	}
	return times, l
}

// Who asks at each time tries it as soon as may be: each time later, and by twice
// as much.
func TestALetterIsTriedSoManyTimes(t *testing.T) {
	times, l := triedAt(letterOf(impl.LtWait, 0, 0), 0, 2000)
	if len(times) != 4 || times[0] != 0 || times[1] != 20 || times[2] != 60 || times[3] != 140 {
		t.Error("tried at", times)
	}
	if l != letterOf(impl.LtWait, 4, 300) {
		t.Errorf("%+v", l)
	}
	if impl.Spent(l, 299) || !impl.Spent(l, 300) || !impl.Spent(l, 2000) {
		t.Error("it is spent from Next on")
	}
}

func TestALetterIsTriedFromEachTriesOn(t *testing.T) {
	for tries := range impl.MaxTries + 1 {
		for _, next := range []int{0, 1, 50} {
			times, l := triedAt(letterOf(impl.LtWait, tries, next), 0, 1000)
			if len(times) != impl.MaxTries-tries || l.Tries != impl.MaxTries || l.State != impl.LtWait {
				t.Errorf("from %d on: %v %+v", tries, times, l)
			}
			if len(times) > 0 && times[0] != next {
				t.Errorf("the first of them: %v", times)
			}
			for i := 1; i < len(times); i++ {
				if times[i]-times[i-1] != []int{0, 20, 40, 80}[tries+i] {
					t.Errorf("from %d on: %v", tries, times)
				}
			}
		}
	}
}

// Where there is no later time any more, each is at the last one: still so many.
func TestALetterIsTriedSoManyTimesAtTheEndOfTime(t *testing.T) {
	l := letterOf(impl.LtWait, 0, 0)
	for tries := 1; tries <= impl.MaxTries; tries++ {
		if impl.Spent(l, impl.MaxTime) {
			t.Errorf("spent already: %+v", l)
		}
		next, done := impl.LetterTry(l, impl.MaxTime)
		if !done || next != letterOf(impl.LtWait, tries, impl.MaxTime) {
			t.Fatalf("%+v: %+v %v", l, next, done)
		}
		l = next
	}
	isNotTried(t, l, impl.MaxTime)
	if !impl.Spent(l, impl.MaxTime) || impl.Spent(l, impl.MaxTime-1) {
		t.Error("it is spent at the end of time")
	}
}

// life is a letter that is asked for anything, and what came of it.
type life struct {
	letter impl.Letter
	tried  int
	last   int
}

// ask does one thing to the letter; it tells what is wrong with that, or nothing.
func (f *life) ask(d *dice, now int) string {
	was := f.letter
	switch d.below(12) {
	case 0:
		f.letter = impl.LetterEnd(was, true)
	case 1:
		f.letter = impl.LetterEnd(was, false)
	default:
		next, done := impl.LetterTry(was, now)
		if done && (now < was.Next || f.tried > 0 && now <= f.last && now < impl.MaxTime) {
			return "tried too soon"
		}
		if done {
			f.tried, f.last = f.tried+1, now
		}
		f.letter = next
	}
	switch {
	case !impl.LetterOk(f.letter):
		return "not ok"
	case was.State != impl.LtWait && f.letter != was:
		return "what is over is turned"
	case f.letter.Tries != f.tried || f.tried > impl.MaxTries:
		return "tried too many times"
	case f.letter.Domain != "a" || f.letter.Body != 30 || f.letter.Next < was.Next:
		return "the rest of it is turned"
	}
	return ""
}

func TestWhatIsOverStaysSo(t *testing.T) {
	d := dice(11)
	tried, over := [impl.MaxTries + 1]int{}, [4]int{}
	for range 20000 {
		f := life{letter: letterOf(impl.LtWait, 0, d.below(3))}
		now := oneOf(&d, 0, 0, 500, impl.MaxTime-300)
		for range 40 {
			now = min(now+d.below(60), impl.MaxTime)
			at := oneOf(&d, now, now, now, now, -1, impl.MaxTime+1, math.MinInt, math.MaxInt)
			if wrong := f.ask(&d, at); wrong != "" {
				t.Fatalf("%s: %+v at %d", wrong, f, at)
			}
			if impl.Spent(f.letter, at) != spentByWord(f.letter, at) {
				t.Fatalf("spent: %+v at %d", f, at)
			}
		}
		tried[f.tried]++
		over[f.letter.State]++
	}
	for n, count := range tried {
		if count == 0 {
			t.Error("none was tried so many times:", n)
		}
	}
	if over[impl.LtWait] == 0 || over[impl.LtGone] == 0 || over[impl.LtBack] == 0 {
		t.Error("how they ended:", over)
	}
}

// All calls of chapter 11 one behind the other, at every time.
func TestNothingTurnsWhatIsOver(t *testing.T) {
	for _, waiting := range letters() {
		if waiting.State != impl.LtWait {
			continue
		}
		for _, gone := range []bool{true, false} {
			over := impl.LetterEnd(waiting, gone)
			for _, now := range append(oddTimes(), waiting.Next, waiting.Next+1) {
				isNotTried(t, over, now)
				endsAs(t, over, true, over)
				endsAs(t, over, false, over)
				if impl.Spent(over, now) || !impl.LetterOk(over) {
					t.Errorf("%+v at %d", over, now)
				}
			}
		}
	}
}
