package tests

import (
	"math"
	"slices"
	"strings"
	"testing"

	"loop.example/g00328/impl"
)

func take(s string) impl.Deed { return impl.Deed{Kind: impl.DdTake, S: s} }

// withBook is w with a journal of so many bytes, none of them sure.
func withBook(w impl.World, bytes int) impl.World {
	return worldWith(w, func(w *impl.World) { w.Book, w.Sure = strings.Repeat("x", bytes), 0 })
}

// withLetters is w with so many letters, and no calls.
func withLetters(w impl.World, count int) impl.World {
	_, all := takenLetters(count)
	return worldWith(w, func(w *impl.World) { w.Letters, w.Calls = all, nil })
}

func TestTakeText(t *testing.T) {
	w, _ := impl.WorldNew([]string{"mx.a"})
	w, one := impl.Do(w, take("a"))
	w, two := impl.Do(w, take("abcdefghij"))
	if one != 0 || two != 0 || w.Book != "take 0 a 1000\ntake 1 abcdefghij 1001\n" || w.Sure != 37 || w.Fresh != 1002 {
		t.Error(one, two, toldWorld(w))
	}
	if !slices.Equal(w.Letters, []impl.Letter{{Domain: "a", Body: 1000, State: 1}, {Domain: "abcdefghij", Body: 1001, State: 1}}) {
		t.Error(w.Letters)
	}
}

func TestTakeOfEachDomain(t *testing.T) {
	for _, w := range []impl.World{bareWorld(), newWorld(), someWorld()} {
		for _, s := range goodDomains() {
			who, body := len(w.Letters), w.Fresh
			does(t, w, take(s), func(w *impl.World) {
				w.Letters = append(w.Letters, impl.Letter{Domain: s, Body: body, State: impl.LtWait})
				w.Book += noteTextByWord(takeNote(who, s, body))
				w.Sure = len(w.Book)
				w.Fresh = body + 1
			})
		}
	}
}

func TestTakeOfNoDomain(t *testing.T) {
	for _, w := range []impl.World{bareWorld(), newWorld(), someWorld()} {
		for _, s := range badDomains() {
			refuses(t, w, take(s), impl.CdIdle)
		}
	}
}

// Nothing but S is asked of the deed, and nothing of what is remembered of the domain.
func TestTakeAsksForTheDomainAlone(t *testing.T) {
	want, _ := impl.Do(someWorld(), take("a"))
	for _, a := range []int{math.MinInt, -1, 0, 1, 29, math.MaxInt} {
		for _, x := range (terms{{}, atom(3), text("220"), ring()}) {
			if got, code := impl.Do(someWorld(), impl.Deed{Kind: impl.DdTake, A: a, S: "a", T: x}); code != impl.CdDone || !sameWorld(got, want) {
				t.Error(a, code)
			}
		}
	}
}

func TestTakeUpToAllLetters(t *testing.T) {
	for count := range impl.MaxLetters + 1 {
		w := withLetters(newWorld(), count)
		if count == impl.MaxLetters {
			refuses(t, w, take("a"), impl.CdFull)
			continue
		}
		does(t, w, take("a"), func(w *impl.World) {
			w.Letters = append(w.Letters, impl.Letter{Domain: "a", Body: 1000, State: impl.LtWait})
			w.Book = noteTextByWord(takeNote(count, "a", 1000))
			w.Sure, w.Fresh = len(w.Book), 1001
		})
	}
	// What is over has its place still.
	w := withLetters(newWorld(), impl.MaxLetters)
	for i := range w.Letters {
		w.Letters[i].State = impl.LtGone
	}
	refuses(t, w, take("a"), impl.CdFull)
}

func TestTakeUpToAFullBook(t *testing.T) {
	for _, count := range []int{0, 9, 10, 29} {
		for _, domain := range []string{"a", tenBytes} {
			for _, fresh := range []int{1000, 9999, 99999, 999989} {
				some := worldWith(withLetters(newWorld(), count), func(w *impl.World) { w.Fresh = fresh })
				note := noteTextByWord(takeNote(count, domain, fresh))
				for _, room := range []int{len(note) + 1, len(note), len(note) - 1, 1, 0} {
					w := withBook(some, impl.MaxNote-room)
					if room < len(note) {
						refuses(t, w, take(domain), impl.CdFull)
						continue
					}
					got, code := asTheWord(t, w, take(domain))
					if code != impl.CdDone || got.Book != w.Book+note || got.Sure != len(got.Book) || len(got.Letters) != count+1 {
						t.Error(count, room, code, len(got.Book), got.Sure)
					}
				}
			}
		}
	}
}

// What was noted ahead of it is sure with it, whatever that is.
func TestTakeMakesAllSure(t *testing.T) {
	for _, book := range []string{"", "take 0 a 1000\ntry 0 0\n", journal(someNotes()...), "x", "\xff\n"} {
		for sure := range len(book) + 1 {
			w := worldWith(newWorld(), func(w *impl.World) { w.Book, w.Sure = book, sure })
			got, code := impl.Do(w, take("a"))
			if code != impl.CdDone || got.Book != book+"take 0 a 1000\n" || got.Sure != len(book)+14 {
				t.Error(sure, code, got.Book, got.Sure)
			}
		}
	}
}

// A text that is no domain is told first, whatever is full.
func TestTakeTellsTheDomainFirst(t *testing.T) {
	full := []impl.World{withLetters(newWorld(), impl.MaxLetters), withBook(newWorld(), impl.MaxNote), fullWorld(), worldWith(newWorld(), func(w *impl.World) { w.Fresh = 999990 })}
	for _, w := range full {
		refuses(t, w, take("A"), impl.CdIdle)
		refuses(t, w, take(""), impl.CdIdle)
		refuses(t, w, take("a"), impl.CdFull)
	}
}
