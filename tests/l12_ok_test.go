package tests

import (
	"math"
	"slices"
	"strings"
	"testing"

	"loop.example/g00328/impl"
)

func takeNote(who int, domain string, body int) impl.Note {
	return impl.Note{Kind: impl.NtTake, Who: who, Domain: domain, Body: body}
}

func tryNote(who, time int) impl.Note { return impl.Note{Kind: impl.NtTry, Who: who, Time: time} }

func goneNote(who int) impl.Note { return impl.Note{Kind: impl.NtGone, Who: who} }

func backNote(who int) impl.Note { return impl.Note{Kind: impl.NtBack, Who: who} }

// notesOfEach are one of each Kind, NoteOk, of that letter.
func notesOfEach(who int) []impl.Note {
	return []impl.Note{takeNote(who, "a", 30), tryNote(who, 50), goneNote(who), backNote(who)}
}

// goodNotes are NoteOk: each Kind with each Who, and what it names at both ends.
func goodNotes() []impl.Note {
	var list []impl.Note
	for who := range impl.MaxLetters {
		list = append(list, notesOfEach(who)...)
		for _, domain := range goodDomains() {
			for _, body := range []int{0, 1, 9, 10, 1000, impl.MaxAtom - 1, impl.MaxAtom} {
				list = append(list, takeNote(who, domain, body))
			}
		}
		for _, time := range []int{0, 1, 9, 10, 99, 1000, impl.MaxTime - 1, impl.MaxTime} {
			list = append(list, tryNote(who, time))
		}
	}
	return list
}

// farNumbers are no number of any field of a note.
func farNumbers() []int {
	return []int{-1, -2, -30, -1 << 32, -1<<32 + 1, 1 << 32, 1<<32 + 1, 1<<32 + 4, math.MinInt, math.MinInt + 1, math.MinInt + 4, math.MaxInt, math.MaxInt - 1}
}

// badNotes are not NoteOk, by one field alone and by all of them.
func badNotes() []impl.Note {
	list := []impl.Note{{}, {Domain: "a", Body: 30}, {Kind: -1, Who: -1, Domain: "A", Body: -1, Time: -1}, {Kind: impl.NtTake}}
	for _, who := range []int{0, 1, impl.MaxLetters - 1} {
		for _, n := range notesOfEach(who) {
			list = append(list, withBadWho(n)...)
			list = append(list, withBadKind(n)...)
			list = append(list, withWhatIsNotNamed(n)...)
		}
		list = append(list, withWhatIsNamedWrong(who)...)
	}
	return list
}

func withBadWho(n impl.Note) []impl.Note {
	var list []impl.Note
	for _, who := range append([]int{impl.MaxLetters, impl.MaxLetters + 1, 100, 255, 256, 257}, farNumbers()...) {
		n.Who = who
		list = append(list, n)
	}
	return list
}

func withBadKind(n impl.Note) []impl.Note {
	var list []impl.Note
	for _, kind := range append([]int{0, 5, 6, 255, 256, 257, 260}, farNumbers()...) {
		n.Kind = kind
		list = append(list, n)
	}
	return list
}

// withWhatIsNotNamed are n with one of the fields set that its Kind does not name.
func withWhatIsNotNamed(n impl.Note) []impl.Note {
	var list []impl.Note
	for _, number := range append([]int{1, 2, 30, impl.MaxTime, impl.MaxTime + 1, impl.MaxAtom}, farNumbers()...) {
		body, time := n, n
		body.Body, time.Time = number, number
		if n.Kind != impl.NtTake {
			list = append(list, body)
		}
		if n.Kind != impl.NtTry {
			list = append(list, time)
		}
	}
	for _, domain := range append(goodDomains(), badDomains()...) {
		if n.Domain = domain; domain != "" && n.Kind != impl.NtTake {
			list = append(list, n)
		}
	}
	return list
}

// withWhatIsNamedWrong are notes whose Kind names a field that is not so.
func withWhatIsNamedWrong(who int) []impl.Note {
	var list []impl.Note
	for _, domain := range badDomains() {
		list = append(list, takeNote(who, domain, 30))
	}
	for _, body := range append([]int{impl.MaxAtom + 1, impl.MaxAtom + 2}, farNumbers()...) {
		list = append(list, takeNote(who, "a", body))
	}
	for _, time := range append([]int{impl.MaxTime + 1, impl.MaxTime + 2, impl.MaxAtom}, farNumbers()...) {
		list = append(list, tryNote(who, time))
	}
	return list
}

// noteOkByWord is what the document says of NoteOk, told apart from the program.
func noteOkByWord(n impl.Note) bool {
	named := map[int]impl.Note{1: {Kind: 1, Who: n.Who, Domain: n.Domain, Body: n.Body}, 2: {Kind: 2, Who: n.Who, Time: n.Time}, 3: {Kind: 3, Who: n.Who}, 4: {Kind: 4, Who: n.Who}}
	so := n.Kind != 1 || domainByWord(n.Domain)
	return so && named[n.Kind] == n && n.Kind != 0 && 0 <= n.Who && n.Who <= 29 && 0 <= n.Body && n.Body <= 1000000 && 0 <= n.Time && n.Time <= 100000
}

func TestNoteConstants(t *testing.T) {
	if impl.NtTake != 1 || impl.NtTry != 2 || impl.NtGone != 3 || impl.NtBack != 4 || impl.MaxNote != 12000 {
		t.Error("the constants of chapter 12")
	}
}

func TestNoteOkOfEachKind(t *testing.T) {
	for _, n := range goodNotes() {
		if !impl.NoteOk(n) {
			t.Errorf("not ok: %+v", n)
		}
	}
	for kind := -1; kind <= 6; kind++ {
		if got := impl.NoteOk(impl.Note{Kind: kind, Who: 3}); got != (kind >= 2 && kind <= 4) {
			t.Error("a Kind with nothing set:", kind, got)
		}
		if got := impl.NoteOk(impl.Note{Kind: kind, Who: 3, Domain: "a"}); got != (kind == 1) {
			t.Error("a Kind with a domain:", kind, got)
		}
		if got := impl.NoteOk(impl.Note{Kind: kind, Who: 3, Time: 7}); got != (kind == 2) {
			t.Error("a Kind with a time:", kind, got)
		}
		if got := impl.NoteOk(impl.Note{Kind: kind, Who: 3, Domain: "a", Body: 7}); got != (kind == 1) {
			t.Error("a Kind with a domain and a body:", kind, got)
		}
	}
}

func TestNoteOkOfEachWho(t *testing.T) {
	for who, want := range map[int]bool{-1: false, 0: true, 1: true, 28: true, 29: true, 30: false, 31: false, math.MinInt: false, math.MaxInt: false} {
		for _, n := range notesOfEach(who) {
			if got := impl.NoteOk(n); got != want {
				t.Errorf("%+v: %v", n, got)
			}
		}
	}
}

func TestNoteOkOfWhatIsNamed(t *testing.T) {
	for body, want := range map[int]bool{-1: false, 0: true, 1: true, 100001: true, 999999: true, 1000000: true, 1000001: false, math.MinInt: false, math.MaxInt: false} {
		if got := impl.NoteOk(takeNote(0, "a", body)); got != want {
			t.Error("a body:", body, got)
		}
	}
	for time, want := range map[int]bool{-1: false, 0: true, 1: true, 99999: true, 100000: true, 100001: false, 1000000: false, math.MinInt: false, math.MaxInt: false} {
		if got := impl.NoteOk(tryNote(0, time)); got != want {
			t.Error("a time:", time, got)
		}
	}
	for domain, want := range map[string]bool{"": false, "a": true, "z": true, tenBytes: true, tenBytes + "k": false, "A": false, "a b": false, "a\n": false, "\xff": false, "é": false, "0": false} {
		if got := impl.NoteOk(takeNote(0, domain, 30)); got != want {
			t.Errorf("a domain %q: %v", domain, got)
		}
	}
}

func TestNoteOkOfNoNote(t *testing.T) {
	for _, n := range badNotes() {
		if impl.NoteOk(n) {
			t.Errorf("ok: %.200v", n)
		}
	}
}

func (d *dice) note() impl.Note {
	n := oneOf(d, notesOfEach(d.below(impl.MaxLetters))...)
	switch d.below(6) {
	case 0:
		n.Kind = oneOf(d, -1, 0, 1, 2, 3, 4, 5)
	case 1:
		n.Who = oneOf(d, -1, 0, 29, 30, 1<<32, math.MinInt, math.MaxInt)
	case 2:
		n.Domain = oneOf(d, append(badDomains(), goodDomains()...)...)
	case 3:
		n.Body = oneOf(d, -1, 0, 1, 1000000, 1000001, math.MinInt, math.MaxInt)
	case 4:
		n.Time = oneOf(d, -1, 0, 1, 100000, 100001, math.MinInt, math.MaxInt)
	}
	return n
}

func TestNoteOkByWord(t *testing.T) {
	d, ok := dice(121), 0
	list := slices.Concat(goodNotes(), badNotes())
	for range 30000 {
		list = append(list, d.note())
	}
	for _, n := range list {
		got := impl.NoteOk(n)
		if got != noteOkByWord(n) {
			t.Fatalf("%.200v: %v", n, got)
		}
		if got {
			ok++
		}
	}
	if ok < 5000 || ok > len(list)-5000 {
		t.Error("the notes ask for too little:", ok, len(list))
	}
}

// A domain of any length is no reason to fail, nor to take it.
func TestNoteOkOfGreatDomains(t *testing.T) {
	for _, domain := range []string{strings.Repeat("a", 1<<22), strings.Repeat("\xff", 1<<22), strings.Repeat("\n", 1<<22)} {
		for kind := range 6 {
			n := impl.Note{Kind: kind, Domain: domain}
			if impl.NoteOk(n) || impl.NoteText(n) != "" {
				t.Error("taken:", kind)
			}
		}
	}
}
