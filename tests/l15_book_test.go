package tests

import (
	"slices"
	"strings"
	"testing"

	"loop.example/g00328/impl"
)

// noted is a world with that book and those letters.
func noted(book string, letters ...impl.Letter) impl.World {
	return worldWith(newWorld(), func(w *impl.World) { w.Book, w.Letters = book, letters })
}

// journals are of each Kind, of no note, and of notes that turn nothing.
func journals() [][]impl.Note {
	long, _ := takenLetters(impl.MaxLetters)
	return [][]impl.Note{
		nil, {takeNote(0, "a", 1000)}, {takeNote(1, "a", 1000)}, {tryNote(0, 5)}, {goneNote(29)}, justNotes(), someNotes(), long,
		{takeNote(0, "a", 0), takeNote(0, "b", 1), takeNote(1, "b", impl.MaxAtom), backNote(0), goneNote(0), tryNote(0, 0), tryNote(1, impl.MaxTime)},
		{takeNote(0, "a", 5), tryNote(0, 0), tryNote(0, 19), tryNote(0, 20), tryNote(0, 60), tryNote(0, 140), tryNote(0, 300)},
	}
}

func TestJudgeBookOfWholeOnes(t *testing.T) {
	for _, list := range journals() {
		isBook(t, "whole", noted(journal(list...), playByWord(list)...), true)
	}
	for _, step := range []int{0, 14} {
		w := noted("take 0 a 1000\ngone 0\n", impl.Letter{Domain: "a", Body: 1000, State: impl.LtGone})
		w.Sure = step
		isBook(t, "sure or not", w, true)
	}
}

// Torn at each byte of its last line, the book is not whole, whatever the letters
// are; and so it is with a byte more.
func TestJudgeBookOfTornOnes(t *testing.T) {
	torn := 0
	for _, list := range journals() {
		if len(list) == 0 {
			continue
		}
		book, ahead := journal(list...), journal(list[:len(list)-1]...)
		for at := len(ahead); at <= len(book); at++ {
			for _, known := range [][]impl.Letter{playByWord(list), playByWord(list[:len(list)-1])} {
				whole := at == len(book) && slices.Equal(known, playByWord(list)) || at == len(ahead) && slices.Equal(known, playByWord(list[:len(list)-1]))
				isBook(t, "torn", noted(book[:at], known...), whole)
				torn++
			}
		}
		for _, s := range []string{"x", "\n", " ", "\x00", "\xff", "t", "back", "back 0", "back 0 \n"} {
			isBook(t, "with more", noted(book+s, playByWord(list)...), false)
		}
	}
	if torn < 200 {
		t.Error("the journals ask for too little:", torn)
	}
}

// A line that is no note makes it wrong, wherever it stands: what is behind it is
// not read either.
func TestJudgeBookWithALineThatIsNoNote(t *testing.T) {
	list := justNotes()
	for at := range len(list) + 1 {
		ahead, behind := journal(list[:at]...), journal(list[at:]...)
		for _, s := range noLines() {
			isBook(t, "with no note", noted(ahead+s+behind, playByWord(list)...), false)
			isBook(t, "with no note", noted(ahead+s+behind, playByWord(list[:at])...), false)
		}
		isBook(t, "without one", noted(ahead+behind, playByWord(list)...), true)
	}
}

func TestJudgeBookOfOtherLetters(t *testing.T) {
	for _, list := range journals() {
		is := playByWord(list)
		book := journal(list...)
		if len(is) < impl.MaxLetters {
			isBook(t, "one more", noted(book, append(slices.Clone(is), letterOf(1, 0, 0))...), false)
		}
		for i := range is {
			isBook(t, "one fewer", noted(book, slices.Delete(slices.Clone(is), i, i+1)...), false)
			for what, turn := range map[string]func(l *impl.Letter){
				"domain": func(l *impl.Letter) { l.Domain += "x" },
				"body":   func(l *impl.Letter) { l.Body = 777 },
				"state":  func(l *impl.Letter) { l.State = 1 + l.State%3 },
				"tries":  func(l *impl.Letter) { l.Tries = (l.Tries + 1) % 5 },
				"next":   func(l *impl.Letter) { l.Next = (l.Next + 1) % 100001 },
			} {
				turned := slices.Clone(is)
				turn(&turned[i])
				isBook(t, "another "+what, noted(book, turned...), turned[i] == is[i])
			}
		}
		isBook(t, "none", noted(book), len(is) == 0)
		isBook(t, "none, as a list", noted(book, []impl.Letter{}...), len(is) == 0)
	}
	isBook(t, "letters and no book", noted("", letterOf(1, 0, 0)), false)
}

func TestJudgeBookOfLettersInAnotherOrder(t *testing.T) {
	long, is := takenLetters(impl.MaxLetters)
	for i := range is {
		for j := range i {
			w := noted(journal(long...), is...)
			w.Letters[i], w.Letters[j] = w.Letters[j], w.Letters[i]
			if got := impl.JudgeBook(w); got != (is[i] == is[j]) {
				t.Error(i, j, got)
			}
			w.Letters[i], w.Letters[j] = w.Letters[j], w.Letters[i]
		}
	}
	two := []impl.Note{takeNote(0, "a", 1), takeNote(1, "b", 2)}
	isBook(t, "in order", noted(journal(two...), playByWord(two)...), true)
	slices.Reverse(two)
	isBook(t, "notes in another order", noted(journal(two...), playByWord(two)...), true)
	isBook(t, "and both taken", noted(journal(two...), impl.Letter{Domain: "b", Body: 2, State: 1}, impl.Letter{Domain: "a", Body: 1, State: 1}), false)
}

// Notes that turn nothing are notes still.
func TestJudgeBookOfNotesThatTurnNothing(t *testing.T) {
	is := playByWord(justNotes())
	for _, n := range []impl.Note{takeNote(0, "x", 7), takeNote(29, "x", 7), tryNote(0, 0), tryNote(1, 41), tryNote(29, 0), goneNote(0), goneNote(29), backNote(0), backNote(3)} {
		isBook(t, "turns nothing", noted(journal(append(justNotes(), n)...), is...), true)
	}
	for _, n := range []impl.Note{takeNote(3, "x", 7), tryNote(1, 60), tryNote(2, 0), goneNote(1), backNote(2)} {
		isBook(t, "turns something", noted(journal(append(justNotes(), n)...), is...), false)
	}
}

func TestJudgeBookUpToItsEnd(t *testing.T) {
	full := strings.Repeat("back 28\n", impl.MaxNote/8)
	if len(full) != impl.MaxNote {
		t.Fatal(len(full))
	}
	isBook(t, "full", noted(full), true)
	isBook(t, "full, the last line none", noted(full[8:]+"back 38\n"), false)
	isBook(t, "more", noted(full+"back 28\n"), false)
	isBook(t, "full, torn", noted(full[:impl.MaxNote-1]), false)
	isBook(t, "no line at all", noted(strings.Repeat("x", impl.MaxNote)), false)
	isBook(t, "ends alone", noted(strings.Repeat("\n", impl.MaxNote)), false)
}

// Neither calls and talks, nor what is known or told is asked.
func TestJudgeBookAsksNothingElse(t *testing.T) {
	for _, torn := range []int{0, 1} {
		for _, turn := range []func(w *impl.World){
			func(w *impl.World) { w.Calls, w.Talks = nil, nil },
			func(w *impl.World) { w.Known, w.Told = atoms(1000, 300), nil },
			func(w *impl.World) { w.Time = 0 },
			func(w *impl.World) { w.Time = impl.MaxTime },
			func(w *impl.World) { w.Fresh = 1000 },
			func(w *impl.World) { w.Sure = len(w.Book) },
			func(w *impl.World) { w.Sure = 0 },
			func(w *impl.World) { w.Cache = someCache(3) },
		} {
			w := justWorld()
			w.Book = w.Book[:len(w.Book)-torn]
			isBook(t, "as it is noted", worldWith(w, turn), torn == 0)
		}
	}
}
