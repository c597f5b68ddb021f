package tests

import (
	"math"
	"slices"
	"strings"
	"testing"

	"loop.example/g00328/impl"
)

func fall(a int) impl.Deed { return impl.Deed{Kind: impl.DdFall, A: a} }

func settle() impl.Deed { return impl.Deed{Kind: impl.DdSure} }

func TestLoseEachHost(t *testing.T) {
	for _, w := range []impl.World{newWorld(), someWorld(), callWorld()} {
		for host := range w.Hosts {
			got := does(t, w, lose(host), func(v *impl.World) {
				v.Hosts[host].Lost = true
				v.Known = partsByWord(append(v.Known, atom(w.Hosts[host].Key)))
			})
			if !impl.Made(got.Known, atom(w.Hosts[host].Key)) {
				t.Error("not known:", w.Hosts[host])
			}
			// One that is lost already is lost once more, and nothing turns.
			does(t, got, lose(host), func(w *impl.World) {})
		}
		for _, host := range append(farNumbers(), len(w.Hosts), len(w.Hosts)+1, 4, 10, 11) {
			refuses(t, w, lose(host), impl.CdNone)
		}
	}
	refuses(t, bareWorld(), lose(0), impl.CdNone)
}

// Of one that is lost already the key is learned still, where it is not known.
func TestLoseWhatIsLost(t *testing.T) {
	w := worldWith(newWorld(), func(w *impl.World) { w.Hosts[1].Lost = true })
	if impl.Made(w.Known, atom(11)) {
		t.Fatal("known")
	}
	does(t, w, lose(1), func(w *impl.World) { w.Known = append(w.Known, atom(11)) })
}

// With a key is known what was sealed by it, and no other key.
func TestLoseTellsWhatTheKeySealed(t *testing.T) {
	w := worldWith(newWorld(), func(w *impl.World) {
		w.Known = append(w.Known, seal(atom(11), pair(atom(7), atom(12))), seal(atom(10), atom(8)))
	})
	got, _ := asTheWord(t, w, lose(1))
	for n, want := range map[int]bool{7: true, 8: false, 10: false, 11: true, 12: true} {
		if impl.Made(got.Known, atom(n)) != want {
			t.Error(n, listed(got.Known))
		}
	}
	if got, _ = asTheWord(t, got, lose(0)); !impl.Made(got.Known, atom(8)) || !got.Hosts[0].Lost || !got.Hosts[1].Lost || got.Hosts[2].Lost {
		t.Error(listed(got.Known), got.Hosts)
	}
	// What came to a share ahead of that stays unknown.
	k := called(t, true, "mx.a").upTo(impl.ClDone)
	k.do(lose(0))
	if impl.Made(k.world.Known, k.client().Share) || impl.Made(k.world.Known, atom(1000)) || !k.world.Calls[0].Good {
		t.Error(toldWorld(k.world))
	}
}

func TestLoseUpToTheRoom(t *testing.T) {
	for count := 298; count <= 300; count++ {
		w := worldWith(newWorld(), func(w *impl.World) { w.Known = atoms(2000, count) })
		got, code := asTheWord(t, w, lose(2))
		if code != impl.CdDone || !got.Hosts[2].Lost || impl.Made(got.Known, atom(12)) != (count < 300) {
			t.Error(count, code, got.Hosts)
		}
	}
	want, _ := impl.Do(newWorld(), lose(2))
	if got, code := impl.Do(newWorld(), impl.Deed{Kind: impl.DdLose, A: 2, S: "mx.a", T: atom(3)}); code != impl.CdDone || !sameWorld(got, want) {
		t.Error("more than A was asked of the deed:", code)
	}
}

// isFallen tells whether behind a fall the journal is that text, and the letters
// those of it.
func isFallen(t *testing.T, w impl.World, a int, book string) impl.World {
	t.Helper()
	list, _ := notesByWord(book)
	return does(t, w, fall(a), func(w *impl.World) {
		w.Book, w.Sure = book, len(book)
		w.Letters, w.Calls = playByWord(list), nil
	})
}

func TestFallText(t *testing.T) {
	book := "take 0 a 1000\ntry 0 0\ngone 0\n"
	w := worldWith(someWorld(), func(w *impl.World) { w.Book, w.Sure = book, 14 })
	for a, want := range map[int]string{0: "take 0 a 1000\n", 7: "take 0 a 1000\n", 8: "take 0 a 1000\ntry 0 0\n", 14: "take 0 a 1000\ntry 0 0\n", 15: book, 16: book, 1000: book, math.MaxInt: book, -1: "take 0 a 1000\n", -14: "take 0 a 1000\n", -15: "take 0 a 1000\n", math.MinInt: "take 0 a 1000\n"} {
		got := isFallen(t, w, a, want)
		if len(got.Letters) != 1 || got.Letters[0].Body != 1000 {
			t.Error(a, got.Letters)
		}
		wantState := map[bool]int{false: impl.LtWait, true: impl.LtGone}[len(want) == len(book)]
		if got.Letters[0].State != wantState || got.Letters[0].Tries != len(want)/22 {
			t.Error(a, got.Letters)
		}
	}
}

// A journal cut at each of its bytes: what is torn is left away, and all else is
// there; the first bytes of it are sure, up to each of them.
func TestFallAtEachByte(t *testing.T) {
	book := journal(someNotes()...)
	for sure := 0; sure <= len(book); sure += 7 {
		w := worldWith(someWorld(), func(w *impl.World) { w.Book, w.Sure = book, sure })
		for a := -1; a <= len(book)-sure+1; a++ {
			kept := book[:min(sure+max(a, 0), len(book))]
			isFallen(t, w, a, kept[:strings.LastIndexByte(kept, '\n')+1])
		}
	}
	for sure := range len(book) + 1 {
		w := worldWith(bareWorld(), func(w *impl.World) { w.Book, w.Sure = book, sure })
		isFallen(t, w, 0, book[:strings.LastIndexByte(book[:sure], '\n')+1])
		isFallen(t, w, len(book), book)
	}
}

func TestFallWithNothingSure(t *testing.T) {
	w := worldWith(someWorld(), func(w *impl.World) { w.Sure = 0 })
	for _, a := range []int{0, -1, math.MinInt, 1, 13} {
		if got := isFallen(t, w, a, ""); len(got.Letters) != 0 {
			t.Error(a, got.Letters)
		}
	}
	for _, a := range []int{len(w.Book), len(w.Book) + 1, impl.MaxNote, 1 << 32, math.MaxInt - 1, math.MaxInt} {
		isFallen(t, w, a, w.Book)
	}
	isFallen(t, bareWorld(), 0, "")
	isFallen(t, bareWorld(), 5, "")
}

func TestFallWithAllSure(t *testing.T) {
	w := worldWith(someWorld(), func(w *impl.World) { w.Sure = len(w.Book) })
	for _, a := range []int{0, -1, 1, len(w.Book), math.MinInt, math.MaxInt} {
		if got := isFallen(t, w, a, w.Book); len(got.Letters) != 3 {
			t.Error(a, got.Letters)
		}
	}
}

// A journal that is none, from some byte on: what stands ahead of that counts, and
// nothing of what stands behind.
func TestFallOfNoJournal(t *testing.T) {
	for _, none := range noLines() {
		for _, ahead := range []string{"", "take 0 a 30\n", journal(someNotes()...)} {
			for _, behind := range []string{"", "take 0 b 31\n", "take 1 b 31\n"} {
				book := ahead + none + behind
				for _, sure := range []int{0, len(ahead), len(book)} {
					w := worldWith(someWorld(), func(w *impl.World) { w.Book, w.Sure = book, sure })
					list, used := notesByWord(book)
					if used >= len(ahead) && len(list) < 20 {
						isFallen(t, w, len(book), book[:used])
					}
				}
			}
		}
	}
	full := fullWorld()
	isFallen(t, full, 0, "")
	isFallen(t, full, math.MaxInt, "")
}

// Talks, what is known and remembered, what was told, the time and the next secret
// stay; calls do not, and letters are those of the journal whatever they were.
func TestFallLeavesTheRest(t *testing.T) {
	w := worldWith(someWorld(), func(w *impl.World) { w.Letters[0].Body = 999 })
	if got := isFallen(t, w, 0, "take 0 a 1000\n"); !slices.Equal(got.Letters, []impl.Letter{{Domain: "a", Body: 1000, State: impl.LtWait}}) || len(got.Talks) != 3 || len(got.Told) != 3 || len(got.Calls) != 0 {
		t.Error(toldWorld(got))
	}
	want, _ := impl.Do(w, fall(3))
	if got, code := impl.Do(w, impl.Deed{Kind: impl.DdFall, A: 3, S: "a", T: atom(3)}); code != impl.CdDone || !sameWorld(got, want) {
		t.Error("more than A was asked of the deed:", code)
	}
	// A call that there was goes on no more.
	k := called(t, true, "mx.a").upTo(impl.ClBody)
	k.do(fall(0))
	refuses(t, k.world, tell(0, text("250")), impl.CdNone)
	if k.world.Letters[0] != (impl.Letter{Domain: "a", Body: 1000, State: impl.LtWait}) || k.world.Fresh != 1003 {
		t.Error(toldWorld(k.world))
	}
	// It may be tried again, as if it had not been.
	k.do(call(0, "mx.a"))
	if k.world.Letters[0].Tries != 1 || k.world.Calls[0].Client.Eph != 1003 {
		t.Error(toldWorld(k.world))
	}
}

func TestSureIsAllOfTheBook(t *testing.T) {
	for _, w := range append(worlds(), newWorld()) {
		for _, sure := range []int{0, len(w.Book) / 2, len(w.Book)} {
			w := worldWith(w, func(w *impl.World) { w.Sure = sure })
			for _, a := range []int{0, -1, 5, math.MinInt, math.MaxInt} {
				d := settle()
				d.A, d.S, d.T = a, "x", atom(a)
				does(t, w, d, func(w *impl.World) { w.Sure = len(w.Book) })
			}
		}
	}
	// What is sure is there behind a fall, all of it.
	k := called(t, true, "mx.a").upTo(impl.ClDone)
	k.do(settle())
	k.do(fall(0))
	if k.world.Letters[0].State != impl.LtGone || k.world.Letters[0].Tries != 1 || k.world.Book != "take 0 a 1000\ntry 0 0\ngone 0\n" {
		t.Error(toldWorld(k.world))
	}
}
