package tests

import (
	"math"
	"slices"
	"strings"
	"testing"

	"loop.example/g00328/impl"
)

func letterStates() []int { return []int{impl.LtWait, impl.LtGone, impl.LtBack} }

// letterOf is one for the domain a with the body 30.
func letterOf(state, tries, next int) impl.Letter {
	return impl.Letter{Domain: "a", Body: 30, State: state, Tries: tries, Next: next}
}

// letters are LetterOk, of every State and Tries.
func letters() []impl.Letter {
	var list []impl.Letter
	for _, state := range letterStates() {
		for tries := range impl.MaxTries + 1 {
			list = append(list, letterOf(state, tries, 0), letterOf(state, tries, 50), letterOf(state, tries, impl.MaxTime))
		}
	}
	return list
}

// badNumbers are what one field of a letter may not be.
func badNumbers() map[string][]int {
	far := []int{-1, -2, -1 << 32, -1<<32 + 1, 1 << 32, 1<<32 + 1, 1<<32 + 3, math.MinInt, math.MinInt + 1, math.MinInt + 3, math.MaxInt, math.MaxInt - 1}
	return map[string][]int{
		"body":  append([]int{impl.MaxAtom + 1, impl.MaxAtom + 2}, far...),
		"state": append([]int{0, 4, 5, 255, 256, 257}, far...),
		"tries": append([]int{5, 6, 30, 255, 256, 257}, far...),
		"next":  append([]int{impl.MaxTime + 1, impl.MaxTime + 2, impl.MaxAtom}, far...),
	}
}

// withNumber is l with another number in that field.
func withNumber(l impl.Letter, field string, n int) impl.Letter {
	switch field {
	case "body":
		l.Body = n
	case "state":
		l.State = n
	case "tries":
		l.Tries = n
	case "next":
		l.Next = n
	}
	return l
}

// badLetters are not LetterOk, by one field alone and by all of them, in every
// State where that is not the field.
func badLetters() []impl.Letter {
	list := []impl.Letter{{}, {Domain: "A", Body: -1, State: -1, Tries: -1, Next: -1}, {State: impl.LtWait}, {Domain: "a"}}
	for _, l := range letters() {
		// Not a range over the map, so that the list has the same order each time.
		for _, field := range []string{"body", "state", "tries", "next"} {
			for _, n := range badNumbers()[field] {
				list = append(list, withNumber(l, field, n))
			}
		}
		for _, domain := range badDomains() {
			l.Domain = domain
			list = append(list, l)
		}
	}
	return list
}

// letterOkByWord is what the document says of LetterOk, told apart from the program.
func letterOkByWord(l impl.Letter) bool {
	return domainByWord(l.Domain) && 0 <= l.Body && l.Body <= 1000000 && slices.Contains([]int{1, 2, 3}, l.State) &&
		slices.Contains([]int{0, 1, 2, 3, 4}, l.Tries) && 0 <= l.Next && l.Next <= 100000
}

func TestLetterConstants(t *testing.T) {
	if impl.LtWait != 1 || impl.LtGone != 2 || impl.LtBack != 3 || impl.MaxTries != 4 || impl.MaxLetters != 30 {
		t.Error(impl.LtWait, impl.LtGone, impl.LtBack, impl.MaxTries, impl.MaxLetters)
	}
}

func TestLetterOkOfEach(t *testing.T) {
	for _, l := range letters() {
		if !impl.LetterOk(l) {
			t.Errorf("not ok: %+v", l)
		}
	}
	for _, l := range badLetters() {
		if impl.LetterOk(l) {
			t.Errorf("ok: %+v", l)
		}
	}
}

func TestLetterOkOfDomains(t *testing.T) {
	for _, l := range letters() {
		for _, domain := range goodDomains() {
			if l.Domain = domain; !impl.LetterOk(l) {
				t.Errorf("not ok: %+v", l)
			}
		}
		for length := range 13 {
			l.Domain = strings.Repeat("q", length)
			if got := impl.LetterOk(l); got != (length >= 1 && length <= 10) {
				t.Errorf("%d bytes: %v", length, got)
			}
		}
	}
}

// Every byte at the head, in the middle and at the end, of a short domain and of
// one that is as long as can be.
func TestLetterOkOfEachByte(t *testing.T) {
	l := letterOf(impl.LtWait, 1, 50)
	for n := range 256 {
		b := string([]byte{byte(n)})
		want := n >= 'a' && n <= 'z'
		for _, domain := range []string{b, b + "m", "m" + b, "m" + b + "x", b + "bcdefghij", "abcd" + b + "fghij", "abcdefghi" + b} {
			if l.Domain = domain; impl.LetterOk(l) != want {
				t.Errorf("%q: %v", domain, !want)
			}
		}
	}
}

func TestLetterOkOfNumbers(t *testing.T) {
	for field, ends := range map[string][2]int{"body": {0, impl.MaxAtom}, "state": {1, 3}, "tries": {0, 4}, "next": {0, impl.MaxTime}} {
		for _, l := range letters() {
			for _, end := range ends {
				for n := end - 3; n <= end+3; n++ {
					if got := impl.LetterOk(withNumber(l, field, n)); got != (n >= ends[0] && n <= ends[1]) {
						t.Errorf("%s %d: %v", field, n, got)
					}
				}
			}
		}
	}
}

// oddLetters are all of some domains and of numbers at the ends of each field,
// one past them, and the least and the greatest there are.
func oddLetters() []impl.Letter {
	var list []impl.Letter
	for _, domain := range []string{"a", tenBytes, "", tenBytes + "k", "a1"} {
		for _, body := range []int{math.MinInt, -1, 0, impl.MaxAtom, impl.MaxAtom + 1, math.MaxInt} {
			for _, state := range []int{math.MinInt, -1, 0, 1, 2, 3, 4, math.MaxInt} {
				for _, tries := range []int{math.MinInt, -1, 0, 3, 4, 5, 63, 64, math.MaxInt} {
					for _, next := range []int{math.MinInt, -1, 0, 50, impl.MaxTime, impl.MaxTime + 1, math.MaxInt} {
						list = append(list, impl.Letter{Domain: domain, Body: body, State: state, Tries: tries, Next: next})
					}
				}
			}
		}
	}
	return list
}

func TestLetterOkByWord(t *testing.T) {
	ok := 0
	for _, l := range oddLetters() {
		got := impl.LetterOk(l)
		if got != letterOkByWord(l) {
			t.Errorf("%+v: %v", l, got)
		}
		if got {
			ok++
		}
	}
	// Of the values above: 2 domains, 2 bodies, 3 states, 3 tries, 3 times.
	if ok != 2*2*3*3*3 {
		t.Error("so many are ok:", ok)
	}
}
