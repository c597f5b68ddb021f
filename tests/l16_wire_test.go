package tests

import (
	"math"
	"runtime"
	"slices"
	"sync"
	"testing"
	"time"

	"loop.example/g00328/impl"
)

// endsAt tells where the last call and the last talk stand behind Carry.
func endsAt(w impl.World) [2]int {
	return [2]int{w.Calls[len(w.Calls)-1].Client.Step, w.Talks[len(w.Talks)-1].Server.Step}
}

// As far as there is room for what is said: it ends where somebody can't be told.
func TestCarryUpToWhatCanBeKnown(t *testing.T) {
	t.Parallel()
	seen := map[[2]int]int{}
	for _, letter := range []int{0, 1} {
		for count := 0; count <= impl.MaxKnown; count++ {
			if count == 1 {
				count = 260
			}
			w := worldWith(callWorld(), func(w *impl.World) { w.Known = atoms(2000, count) })
			got, gone := asCarried(t, w, letter, 0)
			at := endsAt(got)
			seen[at]++
			if gone != (at[0] == impl.ClDone) || gone != (got.Letters[letter].State == impl.LtGone) || at[0] == impl.ClFail {
				t.Error(count, gone, at)
			}
			told := slices.Equal(got.Told, []int{701})
			if told != (letter == 1 && at[0] >= impl.ClBody) || got.Calls[0].Good != (letter == 0 && at[0] >= impl.ClMail) {
				t.Error(count, at, toldWorld(got))
			}
			if !impl.WorldOk(got) || impl.Made(got.Known, atom(700+letter)) || got.Letters[letter].Tries != letter+1 {
				t.Error(count, at, toldWorld(got))
			}
		}
	}
	for _, at := range [][2]int{{impl.ClReply, impl.SvHello}, {impl.ClReply, impl.SvDone}, {impl.ClMail, impl.SvDone}, {impl.ClMail, impl.SvLine}, {impl.ClRcpt, impl.SvLine}, {impl.ClData, impl.SvBody}, {impl.ClBody, impl.SvBody}, {impl.ClBody, impl.SvLine}, {impl.ClDone, impl.SvLine}} {
		if seen[at] == 0 {
			t.Error("none ended at", at, seen)
		}
	}
}

// Where nothing more can be known what is known already can be said still.
func TestCarryWithAllOfItKnown(t *testing.T) {
	t.Parallel()
	w := callWorld()
	var all terms
	for _, said := range overTheWire(1000, 1001, w.Hosts[0], 700) {
		all = partsByWord(append(all, said...))
	}
	for room := range 3 {
		full := worldWith(w, func(w *impl.World) { w.Known = append(all, atoms(2000, impl.MaxKnown-len(all)-room)...) })
		if got := isCarried(t, full, 0, 0, true); len(got.Known) != impl.MaxKnown-room {
			t.Error(room, len(got.Known))
		}
		// What is missing of it is missing for good.
		for i, x := range all {
			part := worldWith(full, func(w *impl.World) { w.Known[i] = atom(9999) })
			if got, _ := asCarried(t, part, 0, 0); !impl.WorldOk(got) || len(got.Calls) != 1 || len(got.Talks) != 1 {
				t.Error(shown(x), toldWorld(got))
			}
		}
	}
}

// What can't be said is not in the way of what comes behind it: a talk that hears
// the line without what makes the seal fails by that.
func TestATalkThatFails(t *testing.T) {
	w := callWorld()
	both := share(atom(1000), atom(1001))
	var all terms
	for _, said := range overTheWire(1000, 1001, w.Hosts[0], 700) {
		all = partsByWord(append(all, said...))
	}
	all = slices.DeleteFunc(all, func(x impl.Term) bool { return order(x, doneOf(both)) == 0 })
	w.Known = append(all, atoms(2000, impl.MaxKnown-len(all))...)
	got, gone := asCarried(t, w, 0, 0)
	if gone || endsAt(got) != [2]int{impl.ClMail, impl.SvFail} || len(got.Told) != 0 || !got.Calls[0].Good || got.Letters[0].State != impl.LtWait || got.Book != "try 0 40\n" {
		t.Error(gone, toldWorld(got))
	}
	if s := got.Talks[0].Server; s.Tls || s.Share.Op != 0 || len(s.Got) != 0 {
		t.Error(toldServer(s))
	}
}

// Where the last note does not fit the letter was taken, and told or not, and waits
// still: the call has not heard that it was.
func TestCarryWithoutRoomForTheLastNote(t *testing.T) {
	for letter, must := range []bool{true, false} {
		try, end := len(noteTextByWord(tryNote(letter, 40))), len(noteTextByWord(goneNote(letter)))
		for room := try; room < try+end; room++ {
			w := withBook(callWorld(), impl.MaxNote-room)
			got, gone := asCarried(t, w, letter, 0)
			if gone || endsAt(got) != [2]int{impl.ClBody, impl.SvLine} || got.Letters[letter].State != impl.LtWait || len(got.Book) != len(w.Book)+try {
				t.Error(room, gone, toldWorld(got))
			}
			want := takenBy(w, letter, 0, must)
			want.Letters[letter].State, want.Book = impl.LtWait, w.Book+noteTextByWord(tryNote(letter, 40))
			want.Calls[0].Client.Step, want.Calls[0].Client.In = impl.ClBody, 3
			if !sameWorld(got, want) {
				t.Error(room, toldWorld(got), toldWorld(want))
			}
			if got.Calls[0].Good != must || slices.Equal(got.Told, []int{700 + letter}) == must || !slices.Equal(got.Talks[0].Server.Got, []int{700 + letter}) {
				t.Error(room, toldWorld(got))
			}
		}
	}
}

// Carry is its deeds, done one behind the other, and nothing else: each of them alone
// by Do, and all by DoAll.
func TestCarryIsItsDeeds(t *testing.T) {
	t.Parallel()
	d, lengths, refused := dice(161), map[int]int{}, 0
	for range 400 {
		w := d.carryWorld()
		// Those that may wait stand first.
		letter, host := min(d.below(5)*(1+d.below(7)/6*5), len(w.Letters)), d.below(len(w.Hosts))
		k, gone := carryByWord(w, letter, host)
		got, is := impl.Carry(w, letter, host)
		all, codes := impl.DoAll(w, k.done)
		one := w
		for _, made := range k.done {
			next, code := impl.Do(one, made)
			if code != impl.CdDone {
				t.Error(toldDeed(made), code)
			}
			one = next
		}
		if is != gone || !sameWorld(got, k.world) || !sameWorld(all, got) || !sameWorld(one, got) || !slices.Equal(codes, make([]int, len(k.done))) && len(codes) > 0 {
			t.Fatal(letter, host, is, gone, codes, toldWorld(got), toldWorld(all))
		}
		if len(k.done) > 1 && len(codes) > 1 && k.refused > 0 {
			refused++
		}
		if gone && len(k.done) != 18 {
			t.Error("carried by", len(k.done))
		}
		lengths[len(k.done)]++
	}
	if lengths[0] < 20 || lengths[18] < 100 || refused < 20 || len(lengths) < 8 {
		t.Error("the worlds ask for too little:", lengths, refused)
	}
}

// carryWorld is right, and most often there is something to be carried in it: with
// all kinds of what is known, more or less room, and others on their way.
func (d *dice) carryWorld() impl.World {
	for {
		w := d.world()
		w.Known = w.Known[:min(len(w.Known), 40)]
		w.Letters, w.Fresh = w.Letters[:min(len(w.Letters), 20)], oneOf(d, 1000, 1001, 5000, 5000, 5000, 999988, 999989)
		for range 1 + d.below(4) {
			w.Letters = append(w.Letters, impl.Letter{Domain: oneOf(d, "a", "b", "c"), Body: 1000 + d.below(9), State: impl.LtWait, Tries: d.below(5), Next: oneOf(d, 0, 0, 0, 50)})
		}
		slices.Reverse(w.Letters)
		if d.below(3) == 0 {
			w.Cache = []impl.Policy{{Domain: oneOf(d, "a", "b"), Mode: impl.MdHold, Mx: []string{oneOf(d, "*.a", "mx.a", "*.b")}, Until: oneOf(d, 0, 40, impl.MaxTime)}}
		}
		switch d.below(4) {
		case 0:
			w.Known = append(w.Known, atoms(3000, impl.MaxKnown-len(w.Known)-d.below(30))...)
		case 1:
			w.Known = append(w.Known, atom(w.Fresh+d.below(2)))
		}
		if d.below(6) > 0 {
			w.Calls, w.Talks = w.Calls[:min(len(w.Calls), d.below(12))], w.Talks[:min(len(w.Talks), d.below(12))]
		}
		if worldByWord(w) && len(w.Hosts) > 0 {
			return w
		}
	}
}

// However the parts of the program run, and whoever else carries beside them: the
// answer is the same each time.
func TestCarryIsTheSameEachTime(t *testing.T) {
	defer runtime.GOMAXPROCS(runtime.GOMAXPROCS(0))
	given := carriedWorlds()
	var ones, alls []impl.World
	for _, w := range given {
		one, _ := carryByWord(w, 0, 0)
		ones, alls = append(ones, one.world), append(alls, allCarriedByWord(w))
	}
	for _, at := range []int{1, 2, 16} {
		runtime.GOMAXPROCS(at)
		var all sync.WaitGroup
		for range 4 {
			all.Go(func() {
				for i, w := range given {
					one, _ := impl.Carry(w, 0, 0)
					if all := impl.CarryAll(w); !sameWorld(one, ones[i]) || !sameWorld(all, alls[i]) {
						t.Error(at, i, toldWorld(one), toldWorld(all))
					}
				}
			})
		}
		all.Wait()
	}
	w := callWorld()
	want := takenBy(w, 0, 0, true)
	for range 100 {
		if got, gone := impl.Carry(w, 0, 0); !gone || !sameWorld(got, want) {
			t.Fatal(toldWorld(got))
		}
	}
}

// carriedWorlds are those in which all is carried, in which something is not, and
// that are none.
func carriedWorlds() []impl.World {
	some := worldWith(callWorld(), func(w *impl.World) { w.Letters = w.Letters[:3] })
	list := []impl.World{{}, bareWorld(), newWorld(), some, someWorld(), numbered(-1)}
	for _, known := range []int{0, 270, 285, 300} {
		list = append(list, worldWith(some, func(w *impl.World) { w.Known = atoms(2000, known) }))
	}
	for _, room := range []int{0, 9, 16, 30} {
		list = append(list, withBook(some, impl.MaxNote-room))
	}
	return list
}

// running waits a while until no more than so many parts of this program run, and
// tells how many do.
func running(most int) int {
	for range 200 {
		if runtime.NumGoroutine() <= most {
			break
		}
		time.Sleep(time.Millisecond)
	}
	return runtime.NumGoroutine()
}

// Nothing runs on behind an answer.
func TestCarryLeavesNothingRunning(t *testing.T) {
	before := runtime.NumGoroutine()
	for range 3 {
		for _, w := range carriedWorlds() {
			for _, letter := range []int{0, 1, 2, -1, math.MaxInt} {
				for _, host := range []int{0, 2, 3, math.MinInt} {
					impl.Carry(w, letter, host)
				}
			}
			impl.CarryAll(w)
		}
	}
	if after := running(before); after > before {
		t.Error("there ran", before, "and run", after)
	}
}
