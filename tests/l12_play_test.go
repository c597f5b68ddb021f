package tests

import (
	"fmt"
	"math"
	"slices"
	"testing"

	"loop.example/g00328/impl"
)

// playByWord is what the document says of Play, told apart from the program.
func playByWord(list []impl.Note) []impl.Letter {
	var all []impl.Letter
	for _, n := range list {
		if !noteOkByWord(n) {
			continue
		}
		if n.Kind == 1 && len(all) == n.Who {
			all = append(all, impl.Letter{Domain: n.Domain, Body: n.Body, State: 1, Tries: 0, Next: 0})
			continue
		}
		for i := range all {
			switch {
			case i == n.Who && n.Kind == 2:
				all[i], _ = tryByWord(all[i], n.Time)
			case i == n.Who && n.Kind == 3:
				all[i] = overByWord(all[i], true)
			case i == n.Who && n.Kind == 4:
				all[i] = overByWord(all[i], false)
			}
		}
	}
	return all
}

func playsAs(t *testing.T, list []impl.Note, want ...impl.Letter) {
	t.Helper()
	if got := impl.Play(list); !slices.Equal(got, want) {
		t.Errorf("%s: %s, wanted %s", inShort(list), inShort(got), inShort(want))
	}
}

// inShort tells the last of a list alone, since some of them are great.
func inShort[T any](list []T) string {
	s := fmt.Sprintf("%d, the last of them %v", len(list), list[max(0, len(list)-5):])
	return s[:min(len(s), 500)]
}

// takenLetters are so many that were taken, each with a domain and a body of its own.
func takenLetters(count int) ([]impl.Note, []impl.Letter) {
	var notes []impl.Note
	var all []impl.Letter
	for who := range count {
		domain := string(rune('a'+who%26)) + string(rune('a'+who/26))
		notes = append(notes, takeNote(who, domain, who*1000))
		all = append(all, impl.Letter{Domain: domain, Body: who * 1000, State: impl.LtWait})
	}
	return notes, all
}

func TestPlayOfNoNotes(t *testing.T) {
	playsAs(t, nil)
	playsAs(t, []impl.Note{})
	playsAs(t, make([]impl.Note, 5))
	playsAs(t, badNotes())
}

func TestPlayTakesTheNextLetter(t *testing.T) {
	playsAs(t, []impl.Note{takeNote(0, "a", 1000)}, impl.Letter{Domain: "a", Body: 1000, State: impl.LtWait})
	for _, domain := range goodDomains() {
		for _, body := range []int{0, 1, impl.MaxAtom} {
			playsAs(t, []impl.Note{takeNote(0, domain, body)}, impl.Letter{Domain: domain, Body: body, State: impl.LtWait})
		}
	}
	for count := range impl.MaxLetters + 1 {
		notes, all := takenLetters(count)
		playsAs(t, notes, all...)
	}
}

func TestPlayTakesNoOtherLetter(t *testing.T) {
	for count := range impl.MaxLetters + 1 {
		notes, all := takenLetters(count)
		for who := -1; who <= impl.MaxLetters+1; who++ {
			if who != count || count == impl.MaxLetters {
				playsAs(t, slices.Concat(notes, []impl.Note{takeNote(who, "other", 7)}), all...)
			}
		}
		for _, who := range farNumbers() {
			playsAs(t, slices.Concat(notes, []impl.Note{takeNote(who, "other", 7)}), all...)
		}
	}
	// One that came too soon is not kept for later.
	playsAs(t, []impl.Note{takeNote(1, "b", 2), takeNote(0, "a", 1)}, impl.Letter{Domain: "a", Body: 1, State: impl.LtWait})
	playsAs(t, []impl.Note{takeNote(0, "a", 1), takeNote(0, "b", 2), takeNote(0, "a", 1)}, impl.Letter{Domain: "a", Body: 1, State: impl.LtWait})
}

// turned are the letters of takenLetters with that one another.
func turned(count, who int, state, tries, next int) []impl.Letter {
	_, all := takenLetters(count)
	all[who].State, all[who].Tries, all[who].Next = state, tries, next
	return all
}

func TestPlayTurnsTheLetterOfItsNumber(t *testing.T) {
	for count := 1; count <= impl.MaxLetters; count++ {
		notes, _ := takenLetters(count)
		for _, who := range []int{0, count / 2, count - 1} {
			playsAs(t, slices.Concat(notes, []impl.Note{tryNote(who, 0)}), turned(count, who, impl.LtWait, 1, 20)...)
			playsAs(t, slices.Concat(notes, []impl.Note{tryNote(who, 7)}), turned(count, who, impl.LtWait, 1, 27)...)
			playsAs(t, slices.Concat(notes, []impl.Note{tryNote(who, impl.MaxTime)}), turned(count, who, impl.LtWait, 1, impl.MaxTime)...)
			playsAs(t, slices.Concat(notes, []impl.Note{goneNote(who)}), turned(count, who, impl.LtGone, 0, 0)...)
			playsAs(t, slices.Concat(notes, []impl.Note{backNote(who)}), turned(count, who, impl.LtBack, 0, 0)...)
			playsAs(t, slices.Concat(notes, []impl.Note{tryNote(who, 7), tryNote(who, 27), goneNote(who)}), turned(count, who, impl.LtGone, 2, 67)...)
		}
	}
}

func TestPlayTurnsNoLetterThatIsNotThere(t *testing.T) {
	for count := range impl.MaxLetters {
		notes, all := takenLetters(count)
		for who := count; who < impl.MaxLetters; who++ {
			playsAs(t, slices.Concat(notes, []impl.Note{tryNote(who, 0), goneNote(who), backNote(who)}), all...)
		}
	}
	// What was noted of a letter ahead of its being taken is nothing to it.
	playsAs(t, []impl.Note{tryNote(0, 0), goneNote(0), backNote(0), takeNote(0, "a", 30)}, letterOf(impl.LtWait, 0, 0))
}

func TestPlayTriesAsLetterTryDoes(t *testing.T) {
	take := takeNote(0, "a", 30)
	playsAs(t, []impl.Note{take, tryNote(0, 0), tryNote(0, 19)}, letterOf(impl.LtWait, 1, 20))
	playsAs(t, []impl.Note{take, tryNote(0, 0), tryNote(0, 19), tryNote(0, 20)}, letterOf(impl.LtWait, 2, 60))
	playsAs(t, []impl.Note{take, tryNote(0, 0), tryNote(0, 20), tryNote(0, 60), tryNote(0, 140)}, letterOf(impl.LtWait, 4, 300))
	playsAs(t, []impl.Note{take, tryNote(0, 0), tryNote(0, 20), tryNote(0, 60), tryNote(0, 140), tryNote(0, 300), tryNote(0, impl.MaxTime)}, letterOf(impl.LtWait, 4, 300))
	playsAs(t, []impl.Note{take, tryNote(0, 50), tryNote(0, 0)}, letterOf(impl.LtWait, 1, 70))
}

func TestPlayEndsAsLetterEndDoes(t *testing.T) {
	take := takeNote(0, "a", 30)
	playsAs(t, []impl.Note{take, goneNote(0), backNote(0), tryNote(0, 0)}, letterOf(impl.LtGone, 0, 0))
	playsAs(t, []impl.Note{take, backNote(0), goneNote(0), tryNote(0, 0)}, letterOf(impl.LtBack, 0, 0))
	playsAs(t, []impl.Note{take, tryNote(0, 5), goneNote(0), take, tryNote(0, 25)}, letterOf(impl.LtGone, 1, 25))
}

// Notes that are not NoteOk, put among others, are left away.
func TestPlayLeavesAwayWhatIsNoNote(t *testing.T) {
	list := someNotes()
	want := impl.Play(list)
	if !slices.Equal(want, playByWord(list)) || len(want) != 3 {
		t.Fatalf("%+v", want)
	}
	bad := badNotes()
	for i, none := range bad {
		at := i % (len(list) + 1)
		playsAs(t, slices.Concat(list[:at], []impl.Note{none}, list[at:]), want...)
	}
	for at := range len(list) + 1 {
		playsAs(t, slices.Concat(list[:at], bad, list[at:]), want...)
	}
	// One field more, and what it says is not done.
	playsAs(t, []impl.Note{takeNote(0, "a", 30), {Kind: impl.NtGone, Time: 1}, {Kind: impl.NtBack, Body: 1}, {Kind: impl.NtTry, Time: 5, Domain: "a"}, {Kind: impl.NtTake, Who: 1, Domain: "a", Time: 1}}, letterOf(impl.LtWait, 0, 0))
}

func TestPlayOfAllLetters(t *testing.T) {
	notes, all := takenLetters(impl.MaxLetters)
	if len(all) != 30 {
		t.Error("so many:", len(all))
	}
	more := slices.Concat(notes, notes, []impl.Note{takeNote(30, "a", 1), takeNote(31, "a", 1), takeNote(29, "a", 1)})
	playsAs(t, more, all...)
	for who := range impl.MaxLetters {
		more = append(more, goneNote(who))
		all[who].State = impl.LtGone
		playsAs(t, more, all...)
	}
}

// notes are of few letters, so that what is taken is turned too.
func (d *dice) notes(count int) []impl.Note {
	var list []impl.Note
	taken := 0
	for range count {
		n := oneOf(d, notesOfEach(d.below(taken+2))...)
		switch {
		case d.below(8) == 0:
			n = d.note()
		case n.Kind == impl.NtTake && d.below(3) > 0:
			n = takeNote(taken, oneOf(d, goodDomains()...), d.below(impl.MaxAtom+1))
		case n.Kind == impl.NtTry:
			n.Time = oneOf(d, 0, 1, 20, 50, 100, d.below(400), impl.MaxTime)
		}
		if n.Kind == impl.NtTake && n.Who == taken && noteOkByWord(n) {
			taken++
		}
		list = append(list, n)
	}
	return list
}

func TestPlayByWord(t *testing.T) {
	d, states, most := dice(127), [4]int{}, 0
	for range 5000 {
		list := d.notes(d.below(150))
		got := impl.Play(list)
		if want := playByWord(list); !slices.Equal(got, want) {
			t.Fatalf("%+v: %+v, wanted %+v", list, got, want)
		}
		for _, l := range got {
			states[l.State]++
		}
		most = max(most, len(got))
	}
	if states[0] > 0 || min(states[1], states[2], states[3]) < 1000 || most != impl.MaxLetters {
		t.Error("the notes ask for too little:", states, most)
	}
}

// Notes put behind others: letters are never fewer, what they are for is never
// another, and what is over stays so.
func TestLettersAreNeverFewer(t *testing.T) {
	d := dice(128)
	for range 300 {
		list := d.notes(100)
		var was []impl.Letter
		for count := range len(list) + 1 {
			is := impl.Play(list[:count])
			if len(is) < len(was) || len(is) > len(was)+1 || len(is) > impl.MaxLetters {
				t.Fatalf("%+v: from %d to %d", list[:count], len(was), len(is))
			}
			for i, l := range was {
				if is[i].Domain != l.Domain || is[i].Body != l.Body || is[i].Tries < l.Tries || is[i].Next < l.Next {
					t.Fatalf("%+v: from %+v to %+v", list[:count], l, is[i])
				}
				if l.State != impl.LtWait && is[i] != l {
					t.Fatalf("%+v: over, from %+v to %+v", list[:count], l, is[i])
				}
			}
			for _, l := range is {
				if !impl.LetterOk(l) {
					t.Fatalf("%+v: %+v", list[:count], l)
				}
			}
			was = is
		}
	}
}

// Of a journal that is torn anywhere, the letters are those of the notes ahead of
// the tear.
func TestLettersOfATornJournal(t *testing.T) {
	d := dice(129)
	for range 30 {
		list := slices.DeleteFunc(d.notes(60), func(n impl.Note) bool { return !noteOkByWord(n) })
		s, was := journal(list...), 0
		for at := range len(s) + 1 {
			got, used := impl.Notes(s[:at])
			if used > at || !slices.Equal(got, list[:len(got)]) {
				t.Fatalf("%q: %+v %d", s[:at], got, used)
			}
			all := impl.Play(got)
			if !slices.Equal(all, playByWord(list[:len(got)])) || len(all) < was {
				t.Fatalf("%q: %+v", s[:at], all)
			}
			was = len(all)
		}
	}
}

// rest are letters turned further by notes, told apart from the program: a part of
// a journal, and then the rest.
func rest(all []impl.Letter, list []impl.Note) []impl.Letter {
	all = slices.Clone(all)
	for _, n := range list {
		switch {
		case !impl.NoteOk(n):
		case n.Kind == impl.NtTake && n.Who == len(all):
			all = append(all, impl.Letter{Domain: n.Domain, Body: n.Body, State: impl.LtWait})
		case n.Kind == impl.NtTry && n.Who < len(all):
			all[n.Who], _ = impl.LetterTry(all[n.Who], n.Time)
		case n.Kind > impl.NtTry && n.Who < len(all):
			all[n.Who] = impl.LetterEnd(all[n.Who], n.Kind == impl.NtGone)
		}
	}
	return all
}

func TestPlayOfAPartAndThenTheRest(t *testing.T) {
	d := dice(130)
	for range 300 {
		list := d.notes(60)
		whole := impl.Play(list)
		for at := range len(list) + 1 {
			if got := rest(impl.Play(list[:at]), list[at:]); !slices.Equal(got, whole) {
				t.Fatalf("%+v at %d: %+v, wanted %+v", list, at, got, whole)
			}
		}
	}
}

func TestPlayAtTheEndsOfInt(t *testing.T) {
	ends := []int{math.MinInt, math.MinInt + 1, -1, 0, 1, math.MaxInt - 1, math.MaxInt}
	var list []impl.Note
	for _, kind := range append(ends, 2, 3, 4, 5) {
		for _, who := range ends {
			for _, body := range ends {
				for _, time := range ends {
					for _, domain := range []string{"", "a", "\xff"} {
						list = append(list, impl.Note{Kind: kind, Who: who, Domain: domain, Body: body, Time: time})
					}
				}
			}
		}
	}
	for _, n := range list {
		playsAs(t, []impl.Note{n}, playByWord([]impl.Note{n})...)
		s := impl.NoteText(n)
		if impl.NoteOk(n) != noteOkByWord(n) || s != noteTextByWord(n) {
			t.Fatalf("%+v", n)
		}
		if got, done := impl.NoteOf(s); done != (s != "") || done && got != n {
			t.Fatalf("%+v: %+v %v", n, got, done)
		}
	}
	playsAs(t, list, playByWord(list)...)
}

func TestPlayOfGreatLists(t *testing.T) {
	notes, all := takenLetters(impl.MaxLetters)
	list := slices.Concat(make([]impl.Note, 1<<18), slices.Repeat(notes, 1<<13), slices.Repeat([]impl.Note{tryNote(29, 0)}, 1<<18))
	all[29].Tries, all[29].Next = 1, 20
	playsAs(t, list, all...)
}
