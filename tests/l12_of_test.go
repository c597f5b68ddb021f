package tests

import (
	"regexp"
	"strconv"
	"strings"
	"testing"

	"loop.example/g00328/impl"
)

// oneNote is a line as the document has it, numbers without needless noughts.
var oneNote = regexp.MustCompile(`\A(?:(take) (0|[1-9][0-9]*) ([a-z]{1,10}) (0|[1-9][0-9]*)|(try) (0|[1-9][0-9]*) (0|[1-9][0-9]*)|(gone|back) (0|[1-9][0-9]*))\n`)

// headNote is the note at the head of s, told apart from the program, and how many
// bytes it takes: 0 where there is none.
func headNote(s string) (impl.Note, int) {
	found := oneNote.FindStringSubmatch(s)
	if found == nil {
		return impl.Note{}, 0
	}
	number := func(digits string) int {
		// What no int holds is as much past every end as this one.
		n, err := strconv.Atoi(digits)
		if err != nil {
			return 1 << 40
		}
		return n
	}
	kinds := map[string]int{"take": 1, "try": 2, "gone": 3, "back": 4}
	n := impl.Note{Kind: kinds[found[1]+found[5]+found[8]], Who: number(found[2] + found[6] + found[9]), Domain: found[3]}
	if n.Kind == 1 {
		n.Body = number(found[4])
	}
	if n.Kind == 2 {
		n.Time = number(found[7])
	}
	if !noteOkByWord(n) {
		return impl.Note{}, 0
	}
	return n, len(found[0])
}

// noteByWord is what the document says of NoteOf.
func noteByWord(s string) (impl.Note, bool) {
	n, used := headNote(s)
	if used == 0 || used != len(s) {
		return impl.Note{}, false
	}
	return n, true
}

// notedAs asks for the note of s, and whether it is by its word.
func notedAs(t *testing.T, s string) bool {
	t.Helper()
	got, done := impl.NoteOf(s)
	if want, there := noteByWord(s); got != want || done != there {
		t.Errorf("%.200q: %+v %v, wanted %+v %v", s, got, done, want, there)
	}
	if done && impl.NoteText(got) != s {
		t.Errorf("%.200q: written again %q", s, impl.NoteText(got))
	}
	return done
}

func isNoNote(t *testing.T, s string) {
	t.Helper()
	if got, done := impl.NoteOf(s); done || got != (impl.Note{}) {
		t.Errorf("%.200q: %+v %v", s, got, done)
	}
	if _, there := noteByWord(s); there {
		t.Errorf("by its word it is one: %.200q", s)
	}
}

func TestNoteOfReadsBack(t *testing.T) {
	for s, want := range noteTexts() {
		got, done := impl.NoteOf(s)
		if !done || got.Kind != want.Kind || got.Who != want.Who || got.Domain != want.Domain || got.Body != want.Body || got.Time != want.Time {
			t.Errorf("%q: %+v %v", s, got, done)
		}
	}
	for _, n := range goodNotes() {
		if got, done := impl.NoteOf(impl.NoteText(n)); !done || got != n {
			t.Errorf("%+v: %+v %v", n, got, done)
		}
	}
}

func TestNoteOfEmptyTextOfNoNote(t *testing.T) {
	isNoNote(t, "")
	for _, n := range badNotes() {
		isNoNote(t, impl.NoteText(n))
	}
}

// Of each text that is right, one byte is taken away, one is put in, and one is
// put in the place of another, everywhere.
func TestNoteOfByteByByte(t *testing.T) {
	read := 0
	for right := range noteTexts() {
		for at := range len(right) + 1 {
			isNoNoteOrWhole(t, right, right[:at])
			isNoNoteOrWhole(t, right, right[at:])
			texts := []string{right[:at] + right[min(at+1, len(right)):]}
			for b := range 256 {
				one := string([]byte{byte(b)})
				texts = append(texts, right[:at]+one+right[at:], right[:at]+one+right[min(at+1, len(right)):])
			}
			for _, s := range texts {
				if notedAs(t, s) {
					read++
				}
			}
		}
	}
	if read < 500 {
		t.Error("the texts ask for too little:", read)
	}
}

func isNoNoteOrWhole(t *testing.T, whole, part string) {
	t.Helper()
	if part != whole {
		isNoNote(t, part)
	}
}

// noNumbers are no digits of a number of any field.
func noNumbers() []string {
	long := strings.Repeat("9", 100000)
	return []string{
		"", "00", "01", "007", "000", "+0", "+1", "-0", "-1", "--1", "+", "-", "1+", "1-", "0x1", "0b1", "0o1", "1e1", "1.0", ".1", "1.", "1_0", "_1", "a", "x", "\x00", "1\x00", "\xff", "1\xff", "é",
		"1000001", "9223372036854775807", "9223372036854775808", "-9223372036854775808", "-9223372036854775809", "18446744073709551615", "18446744073709551616", "18446744073709551617", "4294967296", "4294967297",
		"99999999999999999999999999", long, "1" + strings.Repeat("0", 100000), strings.Repeat("0", 100000), strings.Repeat("0", 100000) + "1", "-" + long,
		"\u0661", "\uff11", "\u00b2", "\t1", "1\t", "\r1", "1\r", "\u00a01", "\u20031",
	}
}

func TestNoteOfNumbers(t *testing.T) {
	for _, n := range noNumbers() {
		for _, s := range []string{
			"take " + n + " a 1000\n", "take 0 a " + n + "\n", "take 29 abcdefghij " + n + "\n", "try " + n + " 7\n", "try 2 " + n + "\n", "gone " + n + "\n", "back " + n + "\n",
		} {
			isNoNote(t, s)
		}
	}
	for _, s := range []string{"take 30 a 0\n", "try 30 0\n", "gone 30\n", "back 30\n", "take 0 a 1000001\n", "try 0 100001\n", "try 0 1000000\n", "gone 100\n", "back 290\n", "take -1 a 0\n", "take 0 a -1\n", "try 0 -1\n"} {
		isNoNote(t, s)
	}
}

func TestNoteOfBlanks(t *testing.T) {
	for right := range noteTexts() {
		body := strings.TrimSuffix(right, "\n")
		for _, s := range []string{" " + right, "  " + right, body + " \n", right + " ", body + "  \n", "\t" + right, body + "\t\n", body + "\r\n", "\r" + right, "\x00" + right, right + "\x00"} {
			isNoNote(t, s)
		}
		for at := range len(right) {
			if right[at] == ' ' {
				for _, other := range []string{"", "  ", "   ", "\t", "\n", "\r", "\x00", "\u00a0", "\u2003", ",", "_", " \t", "\t "} {
					isNoNote(t, right[:at]+other+right[at+1:])
				}
			}
		}
	}
	for _, s := range []string{" ", "  ", "   ", "    ", " \n", "  \n", "   \n", "    \n", "take 0  1000\n", "take  a 1000\n", "take 0 a \n", "try  7\n", "try 2 \n", "gone \n", "back \n", "take0 a 1000\n", "gone0\n"} {
		isNoNote(t, s)
	}
}

func TestNoteOfLineEnds(t *testing.T) {
	for right := range noteTexts() {
		body := strings.TrimSuffix(right, "\n")
		for _, s := range []string{body, right + "\n", right + "\n\n", "\n" + right, "\n" + body, "\n" + body + "\n", body + "\r", body + "\n\r", body + "\u2028", body + "\\n", body + "\x00", body + "\x85", right + right, right + body, right + "back 3\n", "back 3\n" + right} {
			isNoNote(t, s)
		}
		for at := range len(body) {
			isNoNote(t, body[:at]+"\n"+body[at:])
			isNoNote(t, body[:at]+"\n"+right[at:])
			isNoNote(t, body[:at]+"\n"+right[at+1:])
		}
	}
	isNoNote(t, "\n")
	isNoNote(t, "\n\n")
}

func TestNoteOfWords(t *testing.T) {
	words := []string{"", "Take", "TAKE", "tak", "takes", "taken", "ake", "Try", "tr", "tries", "ry", "Gone", "gon", "goned", "go", "Back", "bac", "backs", "b", "wait", "none", "hold", "1", "2", "3", "4", "0", "\x00", "é", "\xff", "t\u0430ke"}
	for _, word := range words {
		for _, rest := range []string{" 0 a 1000\n", " 2 7\n", " 3\n", "\n", " 0 a\n", " 0 a 1000 7\n", ""} {
			isNoNote(t, word+rest)
		}
	}
	// The word of one with what stands behind another, or with more or less of it.
	for _, s := range []string{
		"take\n", "take 0\n", "take 0 a\n", "take 0 7\n", "take 0 7 a\n", "take a 0 7\n", "take 0 a 1000 0\n", "take 0 a 1000 a\n", "take 0 a 1000 \n", "take 0 a a\n", "take 0 1 1\n", "take 0 a b 7\n",
		"try\n", "try 2\n", "try 2 a\n", "try 2 a 7\n", "try 2 7 0\n", "try 2 7 7 7\n", "try a 7\n", "try 2 7 \n",
		"gone\n", "gone 0 0\n", "gone 1 7\n", "gone 1 a 7\n", "gone a\n", "back\n", "back 3 0\n", "back 3 7\n", "back 3 a 7\n", "back a\n", "gone back 3\n", "take", "try", "gone", "back",
	} {
		isNoNote(t, s)
	}
}

func TestNoteOfDomains(t *testing.T) {
	for _, domain := range badDomains() {
		isNoNote(t, "take 0 "+domain+" 1000\n")
	}
	for _, domain := range goodDomains() {
		if !notedAs(t, "take 0 "+domain+" 1000\n") {
			t.Errorf("not read: %q", domain)
		}
	}
}

func TestNoteOfAnyBytes(t *testing.T) {
	for _, s := range oddTexts() {
		isNoNote(t, s)
		isNoNote(t, s+"\n")
		notedAs(t, "take 0 "+s+" 7\n")
	}
	d := dice(123)
	for range 50000 {
		bytes := make([]byte, d.below(30))
		for i := range bytes {
			bytes[i] = byte(d.below(256))
		}
		notedAs(t, string(bytes))
	}
}

func TestNoteOfGreatTexts(t *testing.T) {
	for _, one := range []string{"a", " ", "\n", "0", "9", "\x00", "\xff", "take ", "take 0 a 1000\n", "back 3\n", "a ", " a", "é"} {
		many := strings.Repeat(one, 1<<20)
		for _, s := range []string{many, many + "\n", "take " + many, "take " + many + " a 7\n", "take 0 " + many + " 7\n", "take 0 a " + many + "\n", "try 2 " + many + "\n", "gone " + many + "\n", "back 3" + many, many + "back 3\n"} {
			if got, done := impl.NoteOf(s); done || got != (impl.Note{}) {
				t.Errorf("read: %.40q %d", s, len(s))
			}
		}
	}
}

func (d *dice) noteText() string {
	who := oneOf(d, "0", "1", "2", "9", "10", "29", "30", "00", "01", "", "-1")
	s := oneOf(d, "take", "take", "take", "try", "try", "gone", "back", "", "took") + oneOf(d, " ", " ", " ", " ", " ", " ", "  ", "") + who
	s += oneOf(d, " a", " mx", " "+tenBytes, " A", "", "", "", "")
	s += oneOf(d, " 0", " 7", " 100000", " 100001", " 1000000", " 1000001", " 07", " +7", " ", "", "")
	return s + oneOf(d, "\n", "\n", "\n", "\n", "\n", "", "\n\n", " \n")
}

func TestNoteOfByWord(t *testing.T) {
	d, read := dice(124), [5]int{}
	for range 100000 {
		s := d.noteText()
		if notedAs(t, s) {
			n, _ := impl.NoteOf(s)
			read[n.Kind]++
		}
	}
	for kind := impl.NtTake; kind <= impl.NtBack; kind++ {
		if read[kind] < 100 {
			t.Error("the texts ask for too little:", kind, read)
		}
	}
}
