package tests

import (
	"slices"
	"strings"
	"testing"
	"unsafe"

	"loop.example/g00328/impl"
)

func spareNote() impl.Note { return impl.Note{Kind: -7, Who: -7, Domain: "spare", Body: -7, Time: -7} }

// roomyNotes are those notes, each domain in memory of its own, with spare room
// behind them.
func roomyNotes(list []impl.Note) []impl.Note {
	whole := slices.Concat(list, slices.Repeat([]impl.Note{spareNote()}, spareRoom))
	for i := range list {
		whole[i].Domain = strings.Clone(list[i].Domain)
	}
	return whole[:len(list)]
}

func untouchedNotes(list, was []impl.Note) bool {
	spare := list[len(list):cap(list)][:spareRoom]
	return slices.Equal(list, was) && slices.Equal(spare, slices.Repeat([]impl.Note{spareNote()}, spareRoom))
}

// noteLists are journals: right ones, diced ones, and with what is no note.
func noteLists() [][]impl.Note {
	d := dice(131)
	notes, _ := takenLetters(impl.MaxLetters)
	lists := [][]impl.Note{nil, someNotes(), notes, badNotes()[:200], slices.Concat(someNotes(), badNotes()[:20], someNotes())}
	for count := range 40 {
		lists = append(lists, d.notes(count))
	}
	return lists
}

func TestPlayWritesIntoNothing(t *testing.T) {
	for _, was := range noteLists() {
		list := roomyNotes(was)
		one := impl.Play(list)
		if !untouchedNotes(list, was) {
			t.Fatalf("written into: %+v", was)
		}
		// What is written into an answer is seen by no argument and by no other answer.
		two := impl.Play(list)
		for i := range one[:cap(one)] {
			one[:cap(one)][i] = impl.Letter{Domain: "written", Body: -9, State: -9, Tries: -9, Next: -9}
		}
		if !untouchedNotes(list, was) || !slices.Equal(two, playByWord(was)) || !slices.Equal(impl.Play(list), two) {
			t.Fatalf("an answer is kept: %+v", was)
		}
	}
}

func TestPlayAnswersNewMemory(t *testing.T) {
	for _, was := range noteLists() {
		list := roomyNotes(was)
		one, two := impl.Play(list), impl.Play(list)
		for i, l := range one {
			for _, n := range list {
				if n.Domain != "" && liesWithin(l.Domain, n.Domain) {
					t.Fatalf("letter %d has the domain of a note: %+v", i, was)
				}
			}
			for j, other := range slices.Concat(two, one[:i]) {
				if liesWithin(l.Domain, other.Domain) {
					t.Fatalf("letters %d and %d have one domain: %+v", i, j, was)
				}
			}
		}
	}
}

// The bytes of the domains are written over behind the call, which no answer sees.
func TestPlayIsApartFromItsDomains(t *testing.T) {
	for _, was := range noteLists() {
		list, all := slices.Clone(was), [][]byte{}
		for i, n := range was {
			if bytes := []byte(n.Domain); len(bytes) > 0 {
				list[i].Domain = unsafe.String(&bytes[0], len(bytes))
				all = append(all, bytes)
			}
		}
		got := impl.Play(list)
		if !slices.Equal(list, was) {
			t.Fatalf("written into: %+v", was)
		}
		for _, bytes := range all {
			for i := range bytes {
				bytes[i] = '!'
			}
		}
		if want := playByWord(was); !slices.Equal(got, want) {
			t.Fatalf("%+v, wanted %+v", got, want)
		}
	}
}

func TestNotesAreNewMemory(t *testing.T) {
	for _, was := range noteLists() {
		s := strings.Clone(journal(was...))
		if s == "" {
			continue
		}
		one, _ := impl.Notes(s)
		two, _ := impl.Notes(s)
		for i, n := range one {
			if n.Domain == "" {
				continue
			}
			if liesWithin(n.Domain, s) {
				t.Fatalf("note %d has a part of its text: %q", i, s)
			}
			for _, other := range slices.Concat(two, one[:i]) {
				if other.Domain != "" && liesWithin(n.Domain, other.Domain) {
					t.Fatalf("note %d has the domain of another: %q", i, s)
				}
			}
		}
	}
	for _, n := range goodNotes() {
		s := impl.NoteText(n)
		if got, _ := impl.NoteOf(s); got.Domain != "" && liesWithin(got.Domain, s) {
			t.Fatalf("a part of its text: %q", s)
		}
		if liesWithin(s, impl.NoteText(n)) || n.Domain != "" && liesWithin(s, n.Domain) {
			t.Fatalf("a text that is another: %q", s)
		}
	}
}

// The bytes of a text are written over behind the call, which no note sees.
func TestNotesAreApartFromTheirText(t *testing.T) {
	for _, was := range noteLists() {
		text := journal(was...)
		if text == "" {
			continue
		}
		bytes := []byte(text)
		s := unsafe.String(&bytes[0], len(bytes))
		one, used := impl.Notes(s)
		line := s[:strings.Index(s, "\n")+1]
		first, _ := impl.NoteOf(line)
		again := impl.NoteText(first)
		if string(bytes) != text {
			t.Fatalf("written into: %q", text)
		}
		for i := range bytes {
			bytes[i] = '!'
		}
		want, wanted := notesByWord(text)
		if !slices.Equal(one, want) || used != wanted || first != want[0] || again != noteTextByWord(want[0]) {
			t.Fatalf("%q: %+v %d %+v", text, one, used, first)
		}
	}
}

func TestNotesInAListAreApart(t *testing.T) {
	s := journal(someNotes()...)
	one, _ := impl.Notes(s)
	two, _ := impl.Notes(s)
	for i := range one[:cap(one)] {
		one[:cap(one)][i] = spareNote()
	}
	if !slices.Equal(two, someNotes()) {
		t.Errorf("%+v", two)
	}
	notesAre(t, s, someNotes(), len(s))
}

// notesTold are all answers of chapter 12 at a list of notes and a text.
type notesTold struct {
	ok      []bool
	texts   []string
	read    impl.Note
	done    bool
	notes   []impl.Note
	used    int
	letters []impl.Letter
}

func tellNotes(list []impl.Note, s string) notesTold {
	var told notesTold
	for _, n := range list {
		told.ok = append(told.ok, impl.NoteOk(n))
		told.texts = append(told.texts, impl.NoteText(n))
	}
	told.read, told.done = impl.NoteOf(s)
	told.notes, told.used = impl.Notes(s)
	told.letters = impl.Play(list)
	return told
}

func (a notesTold) same(b notesTold) bool {
	return slices.Equal(a.ok, b.ok) && slices.Equal(a.texts, b.texts) && a.read == b.read && a.done == b.done &&
		slices.Equal(a.notes, b.notes) && a.used == b.used && slices.Equal(a.letters, b.letters)
}

// What is asked first, and what was asked before, is nothing to an answer.
func TestNotesAreNotKept(t *testing.T) {
	lists, d := noteLists(), dice(132)
	texts := append(noLines(), "", "take 0 a 1000\n", "take 0 a 1000\ntry 0 0\ngo")
	for range 50 {
		texts = append(texts, d.noteText()+d.noteText())
	}
	ask := func(i int) notesTold { return tellNotes(lists[i%len(lists)], texts[i/len(lists)]) }
	var first []notesTold
	for i := range len(lists) * len(texts) {
		first = append(first, ask(i))
	}
	for i := len(first) - 1; i >= 0; i-- {
		if again := ask(i); !again.same(first[i]) {
			t.Fatalf("%d: %+v %+v", i, first[i], again)
		}
	}
}
