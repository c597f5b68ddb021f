package tests

import (
	"strings"
	"testing"
	"unsafe"

	"loop.example/g00328/impl"
)

// lettersOf are the letters that chapter 11 answers at a letter and a time.
func lettersOf(l impl.Letter, now int) []impl.Letter {
	tried, _ := impl.LetterTry(l, now)
	return []impl.Letter{tried, impl.LetterEnd(l, true), impl.LetterEnd(l, false)}
}

// givenLetters are right ones and others, each domain in memory of its own.
func givenLetters() []impl.Letter {
	list := append(letters(), badLetters()[:300]...)
	for _, domain := range append(goodDomains(), badDomains()...) {
		for _, state := range []int{0, impl.LtWait, impl.LtGone, impl.LtBack} {
			list = append(list, impl.Letter{Domain: domain, Body: 30, State: state, Tries: 1, Next: 50})
		}
	}
	for i := range list {
		list[i].Domain = strings.Clone(list[i].Domain)
	}
	return list
}

func TestLettersAreNewMemory(t *testing.T) {
	for _, l := range givenLetters() {
		if l.Domain == "" {
			continue
		}
		for _, now := range []int{-1, 49, 50, impl.MaxTime} {
			one, two := lettersOf(l, now), lettersOf(l, now)
			for i := range one {
				if liesWithin(one[i].Domain, l.Domain) {
					t.Errorf("%d of %+v at %d has the domain of its argument", i, l, now)
				}
				if liesWithin(one[i].Domain, two[i].Domain) {
					t.Errorf("%d of %+v at %d: two answers have one domain", i, l, now)
				}
			}
		}
	}
}

// The bytes of a domain are written over behind the call, which no answer sees.
func TestLettersAreApartFromTheirDomain(t *testing.T) {
	for _, was := range givenLetters() {
		if was.Domain == "" {
			continue
		}
		for _, now := range []int{-1, 50} {
			bytes := []byte(was.Domain)
			l := was
			l.Domain = unsafe.String(&bytes[0], len(bytes))
			answers := lettersOf(l, now)
			if string(bytes) != was.Domain {
				t.Fatalf("written into: %+v", was)
			}
			for i := range bytes {
				bytes[i] = '!'
			}
			for i, want := range lettersOf(was, now) {
				if answers[i] != want {
					t.Fatalf("%d: %+v, wanted %+v", i, answers[i], want)
				}
			}
		}
	}
}

func TestLettersAreNotWrittenInto(t *testing.T) {
	list := givenLetters()
	were := append([]impl.Letter(nil), list...)
	for i := range list {
		for _, now := range oddTimes() {
			impl.LetterOk(list[i])
			impl.Spent(list[i], now)
			for _, answer := range lettersOf(list[i], now) {
				answer.Domain, answer.Body, answer.State, answer.Tries, answer.Next = "written", -9, -9, -9, -9
			}
		}
		if list[i] != were[i] {
			t.Fatalf("written into: %+v, it was %+v", list[i], were[i])
		}
	}
}

// lettersTold are all answers of chapter 11 at a letter and a time.
type lettersTold struct {
	ok, tried, spent   bool
	next, gone, backed impl.Letter
}

func tellLetters(l impl.Letter, now int) lettersTold {
	next, tried := impl.LetterTry(l, now)
	return lettersTold{impl.LetterOk(l), tried, impl.Spent(l, now), next, impl.LetterEnd(l, true), impl.LetterEnd(l, false)}
}

// What is asked first, and what was asked before, is nothing to an answer.
func TestLettersAreNotKept(t *testing.T) {
	list, times := givenLetters(), oddTimes()
	ask := func(i int) lettersTold { return tellLetters(list[i%len(list)], times[i/len(list)]) }
	var first []lettersTold
	for i := range len(list) * len(times) {
		first = append(first, ask(i))
	}
	for i := len(first) - 1; i >= 0; i-- {
		if again := ask(i); again != first[i] {
			t.Fatalf("%d: %+v %+v", i, first[i], again)
		}
	}
}

// A domain of any length is answered too, as it was.
func TestLettersOfGreatDomains(t *testing.T) {
	l := impl.Letter{Domain: strings.Repeat("a", 1<<20), Body: 30, State: impl.LtWait, Tries: impl.MaxTries, Next: 50}
	isNotTried(t, l, 50)
	gone := l
	gone.State = impl.LtGone
	endsAs(t, l, true, gone)
	endsAs(t, gone, false, gone)
	if impl.LetterOk(l) || !impl.Spent(l, 50) {
		t.Error("it is no letter, and spent")
	}
}
