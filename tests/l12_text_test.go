package tests

import (
	"fmt"
	"slices"
	"strings"
	"testing"

	"loop.example/g00328/impl"
)

// noteTextByWord is what the document says of NoteText, told apart from the program.
func noteTextByWord(n impl.Note) string {
	if !noteOkByWord(n) {
		return ""
	}
	return map[int]string{
		1: fmt.Sprintf("take %d %s %d\n", n.Who, n.Domain, n.Body),
		2: fmt.Sprintf("try %d %d\n", n.Who, n.Time),
		3: fmt.Sprintf("gone %d\n", n.Who),
		4: fmt.Sprintf("back %d\n", n.Who),
	}[n.Kind]
}

// noteTexts are texts and what they tell, with the least and the greatest numbers.
func noteTexts() map[string]impl.Note {
	return map[string]impl.Note{
		"take 0 a 0\n":                 {Kind: 1, Domain: "a"},
		"take 0 a 1000\n":              {Kind: 1, Domain: "a", Body: 1000},
		"take 1 take 30\n":             {Kind: 1, Who: 1, Domain: "take", Body: 30},
		"take 9 z 1000000\n":           {Kind: 1, Who: 9, Domain: "z", Body: 1000000},
		"take 10 try 7\n":              {Kind: 1, Who: 10, Domain: "try", Body: 7},
		"take 29 abcdefghij 1000000\n": {Kind: 1, Who: 29, Domain: "abcdefghij", Body: 1000000},
		"take 29 zzzzzzzzzz 0\n":       {Kind: 1, Who: 29, Domain: "zzzzzzzzzz"},
		"try 0 0\n":                    {Kind: 2},
		"try 2 7\n":                    {Kind: 2, Who: 2, Time: 7},
		"try 0 100000\n":               {Kind: 2, Time: 100000},
		"try 29 0\n":                   {Kind: 2, Who: 29},
		"try 29 100000\n":              {Kind: 2, Who: 29, Time: 100000},
		"gone 0\n":                     {Kind: 3},
		"gone 1\n":                     {Kind: 3, Who: 1},
		"gone 29\n":                    {Kind: 3, Who: 29},
		"back 0\n":                     {Kind: 4},
		"back 3\n":                     {Kind: 4, Who: 3},
		"back 29\n":                    {Kind: 4, Who: 29},
	}
}

func TestNoteTextByteByByte(t *testing.T) {
	for want, n := range noteTexts() {
		if got := impl.NoteText(n); got != want {
			t.Errorf("%+v: %q, wanted %q", n, got, want)
		}
	}
}

func TestNoteTextOfNoNote(t *testing.T) {
	for _, n := range badNotes() {
		if got := impl.NoteText(n); got != "" {
			t.Errorf("%.200v: %q", n, got)
		}
	}
}

// Each note has a text of its own, of one line.
func TestNoteTextIsOneLine(t *testing.T) {
	seen := map[string]impl.Note{}
	for _, n := range goodNotes() {
		s := impl.NoteText(n)
		if strings.Index(s, "\n") != len(s)-1 || s == "" {
			t.Errorf("%+v: %q", n, s)
		}
		if other, there := seen[s]; there && other != n {
			t.Errorf("%+v and %+v: %q", n, other, s)
		}
		seen[s] = n
	}
}

func TestNoteTextByWord(t *testing.T) {
	d := dice(122)
	list := slices.Concat(goodNotes(), badNotes())
	for range 20000 {
		list = append(list, d.note())
	}
	for _, n := range list {
		if got, want := impl.NoteText(n), noteTextByWord(n); got != want {
			t.Fatalf("%.200v: %q, wanted %q", n, got, want)
		}
	}
}
