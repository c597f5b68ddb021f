package tests

import (
	"slices"
	"strings"
	"testing"

	"loop.example/g00328/impl"
)

// notesByWord is what the document says of Notes, told apart from the program.
func notesByWord(s string) ([]impl.Note, int) {
	var list []impl.Note
	used := 0
	for {
		n, bytes := headNote(s[used:])
		if bytes == 0 {
			return list, used
		}
		list, used = append(list, n), used+bytes
	}
}

func notesAre(t *testing.T, s string, want []impl.Note, bytes int) {
	t.Helper()
	if got, used := impl.Notes(s); used != bytes || !slices.Equal(got, want) {
		t.Errorf("%.300q: %s, %d bytes; wanted %s, %d bytes", s, inShort(got), used, inShort(want), bytes)
	}
}

// journal is one text of those notes.
func journal(list ...impl.Note) string {
	var s strings.Builder
	for _, n := range list {
		s.WriteString(noteTextByWord(n))
	}
	return s.String()
}

// someNotes are a journal of a few letters, each Kind in it.
func someNotes() []impl.Note {
	return []impl.Note{
		takeNote(0, "a", 1000), tryNote(0, 0), takeNote(1, tenBytes, impl.MaxAtom), goneNote(0), tryNote(1, 7), tryNote(1, 40),
		takeNote(2, "mx", 0), backNote(1), tryNote(2, impl.MaxTime), goneNote(29), takeNote(29, "z", 1), tryNote(29, 0), backNote(2),
	}
}

// noLines are no line of a journal, whatever stands behind them.
func noLines() []string {
	return []string{"\n", " \n", "x\n", "go\n", "took 0 a 1000\n", "take 0 A 1000\n", "take 3\n", "try 2\n", "try 2 07\n", "try 2 100001\n", "gone 30\n", "gone 1 \n", " gone 1\n", "back -1\n", "back 3\r\n", "\x00", "\xff\n", "take 0 a 1000 \n", "back 3 "}
}

func TestNotesOfNoLine(t *testing.T) {
	notesAre(t, "", nil, 0)
	for _, s := range noLines() {
		notesAre(t, s, nil, 0)
		notesAre(t, strings.TrimSuffix(s, "\n"), nil, 0)
	}
	for s := range noteTexts() {
		notesAre(t, strings.TrimSuffix(s, "\n"), nil, 0)
	}
}

func TestNotesOfOneLine(t *testing.T) {
	for s, n := range noteTexts() {
		notesAre(t, s, []impl.Note{n}, len(s))
	}
}

func TestNotesOfManyLines(t *testing.T) {
	notesAre(t, "take 0 a 1000\ntry 0 0\n", []impl.Note{takeNote(0, "a", 1000), tryNote(0, 0)}, 22)
	notesAre(t, "take 0 a 1000\ntry 0 0\ngo", []impl.Note{takeNote(0, "a", 1000), tryNote(0, 0)}, 22)
	notesAre(t, "back 3\nback 3\nback 3\n", []impl.Note{backNote(3), backNote(3), backNote(3)}, 21)
	list := someNotes()
	for count := range len(list) + 1 {
		s := journal(list[:count]...)
		notesAre(t, s, list[:count], len(s))
	}
	all := goodNotes()
	s := journal(all...)
	if len(s) <= impl.MaxNote {
		t.Error("it is not past MaxNote:", len(s))
	}
	notesAre(t, s, all, len(s))
}

// Up to the tear, each whole line is there, and nothing of the one that is torn.
func TestNotesOfATornText(t *testing.T) {
	list := someNotes()
	s := journal(list...)
	ends := []int{0}
	for _, n := range list {
		ends = append(ends, ends[len(ends)-1]+len(noteTextByWord(n)))
	}
	for at := range len(s) + 1 {
		count := 0
		for count+1 < len(ends) && ends[count+1] <= at {
			count++
		}
		notesAre(t, s[:at], list[:count], ends[count])
		// What is written behind the tear, as if nothing had been lost, is on no line
		// of its own; where it makes a line with what is torn, that line counts.
		for _, behind := range []string{"", "\n", "x", "\x00", "\xff", " "} {
			want, used := notesByWord(s[:at] + behind)
			notesAre(t, s[:at]+behind, want, used)
		}
	}
}

// A byte of the journal is another: what stands ahead of its line is there still.
func TestNotesOfATextWithATurnedByte(t *testing.T) {
	s, stopped := journal(someNotes()...), 0
	for at := range len(s) {
		for _, b := range []byte("\n\x00 09ax-\xff") {
			turned := s[:at] + string([]byte{b}) + s[at+1:]
			want, used := notesByWord(turned)
			notesAre(t, turned, want, used)
			if start := strings.LastIndex(s[:at], "\n") + 1; used < start {
				t.Errorf("%q: only %d", turned, used)
			}
			if used < len(turned) {
				stopped++
			}
		}
	}
	if stopped < 500 {
		t.Error("the texts ask for too little:", stopped)
	}
}

func TestNotesUpToWhatIsNoLine(t *testing.T) {
	list := someNotes()
	for _, none := range noLines() {
		for at := range len(list) + 1 {
			ahead := journal(list[:at]...)
			notesAre(t, ahead+none+journal(list[at:]...), list[:at], len(ahead))
			notesAre(t, ahead+none+none, list[:at], len(ahead))
		}
	}
}

// A journal is read again from what is used of it, and more may be put behind.
func TestNotesOfWhatIsUsed(t *testing.T) {
	list := someNotes()
	s := journal(list...)
	for at := range len(s) + 1 {
		got, used := impl.Notes(s[:at] + "\x00" + s[at:])
		if used > len(s) {
			t.Fatal("more than there is:", used)
		}
		notesAre(t, s[:used], got, used)
		if journal(got...) != s[:used] {
			t.Errorf("%d: %+v", at, got)
		}
		notesAre(t, s[:used]+"back 3\n", append(got, backNote(3)), used+7)
	}
}

func TestNotesByWord(t *testing.T) {
	d, read, stopped := dice(125), 0, 0
	for range 30000 {
		var s strings.Builder
		for range d.below(8) {
			s.WriteString(oneOf(&d, impl.NoteText(d.note()), noteTextByWord(oneOf(&d, someNotes()...)), d.noteText()))
		}
		want, bytes := notesByWord(s.String())
		got, used := impl.Notes(s.String())
		if used != bytes || !slices.Equal(got, want) {
			t.Fatalf("%q: %+v %d, wanted %+v %d", s.String(), got, used, want, bytes)
		}
		read += len(got)
		if used < s.Len() {
			stopped++
		}
	}
	if read < 20000 || stopped < 5000 {
		t.Error("the texts ask for too little:", read, stopped)
	}
}

func TestNotesOfAnyBytes(t *testing.T) {
	for _, s := range oddTexts() {
		notesAre(t, s, nil, 0)
		notesAre(t, "back 3\n"+s, []impl.Note{backNote(3)}, 7)
		notesAre(t, "back 3\n"+s+"\nback 3\n", []impl.Note{backNote(3)}, 7)
	}
	d := dice(126)
	for range 20000 {
		bytes := make([]byte, d.below(60))
		for i := range bytes {
			bytes[i] = byte(d.below(256))
		}
		want, used := notesByWord(string(bytes))
		notesAre(t, string(bytes), want, used)
	}
}

func TestNotesOfGreatTexts(t *testing.T) {
	const count = 1 << 18
	list, used := impl.Notes(strings.Repeat("take 29 abcdefghij 1000000\n", count) + "tak")
	if len(list) != count || used != 27*count || list[count-1] != takeNote(29, tenBytes, impl.MaxAtom) {
		t.Error("many lines:", len(list), used)
	}
	for _, one := range []string{"a", " ", "\n", "0", "\x00", "\xff", "take ", "é", "take 0 a "} {
		many := strings.Repeat(one, 1<<20)
		notesAre(t, many, nil, 0)
		notesAre(t, "back 3\n"+many, []impl.Note{backNote(3)}, 7)
		notesAre(t, "back 3\ngone "+many+"\nback 3\n", []impl.Note{backNote(3)}, 7)
	}
}
