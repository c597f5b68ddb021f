package tests

import (
	"slices"
	"testing"

	"loop.example/g00328/impl"
)

// verdict is what each of the five says of a world.
type verdict struct{ secret, held, taken, book, all bool }

func judge(w impl.World) verdict {
	return verdict{impl.JudgeSecret(w), impl.JudgeHeld(w), impl.JudgeTaken(w), impl.JudgeBook(w), impl.JudgeAll(w)}
}

// just is that all is right, unjust that the world is none.
func just() verdict { return verdict{true, true, true, true, true} }

func unjust() verdict { return verdict{} }

// judgedByWord is what the document says of chapter 15, told apart from the program.
func judgedByWord(w impl.World) verdict {
	if !worldByWord(w) {
		return unjust()
	}
	v := verdict{secretByWord(w), heldByWord(w), takenBackByWord(w), bookByWord(w), false}
	v.all = v.secret && v.held && v.taken && v.book
	return v
}

func secretByWord(w impl.World) bool {
	for _, l := range w.Letters {
		open := false
		for _, body := range w.Told {
			open = open || body == l.Body
		}
		if !open && madeByWord(w.Known, atom(l.Body)) {
			return false
		}
	}
	return true
}

func heldByWord(w impl.World) bool {
	proofs := map[int]bool{5: true, 6: true, 7: true, 8: true, 9: true}
	for _, c := range w.Calls {
		if c.Client.Must && proofs[c.Client.Step] && (!c.Client.Tls || !c.Client.Proved) {
			return false
		}
		if c.Good && !c.Client.Must {
			return false
		}
	}
	return true
}

func takenBackByWord(w impl.World) bool {
	got := map[int]bool{}
	for _, k := range w.Talks {
		for _, body := range k.Server.Got {
			got[body] = true
		}
	}
	for _, c := range w.Calls {
		if c.Good && c.Client.Step == 9 && !got[c.Client.Body] {
			return false
		}
	}
	return true
}

func bookByWord(w impl.World) bool {
	list, used := notesByWord(w.Book)
	is := playByWord(list)
	if used < len(w.Book) || len(is) != len(w.Letters) {
		return false
	}
	for i, l := range w.Letters {
		if l.Domain != is[i].Domain || l.Body != is[i].Body || l.State != is[i].State || l.Tries != is[i].Tries || l.Next != is[i].Next {
			return false
		}
	}
	return true
}

// asJudged holds what is said of w against what is wanted, and against the
// document's word.
func asJudged(t *testing.T, what string, w impl.World, want verdict) {
	t.Helper()
	if got, by := judge(w), judgedByWord(w); got != want || by != want {
		t.Errorf("%s: %v, by word %v, wanted %v: %s", what, got, by, want, toldWorld(w))
	}
}

// byWord holds what is said of w against the document's word.
func byWord(t *testing.T, what string, w impl.World) verdict {
	t.Helper()
	got := judge(w)
	if by := judgedByWord(w); got != by {
		t.Errorf("%s: %v, by word %v: %s", what, got, by, toldWorld(w))
	}
	return got
}

// isSecret, isHeld, isTaken and isBook hold the one that they name against want, and
// all else against the document's word.
var (
	isSecret = isPart(func(v verdict) bool { return v.secret })
	isHeld   = isPart(func(v verdict) bool { return v.held })
	isTaken  = isPart(func(v verdict) bool { return v.taken })
	isBook   = isPart(func(v verdict) bool { return v.book })
)

func isPart(part func(v verdict) bool) func(t *testing.T, what string, w impl.World, want bool) {
	return func(t *testing.T, what string, w impl.World, want bool) {
		t.Helper()
		if got := part(byWord(t, what, w)); got != want {
			t.Errorf("%s: %v: %s", what, got, toldWorld(w))
		}
	}
}

// justNotes are the journal of justWorld.
func justNotes() []impl.Note {
	return []impl.Note{takeNote(0, "a", 1000), tryNote(0, 0), takeNote(1, "b", 1001), goneNote(0), tryNote(1, 40), takeNote(2, "c", 1002)}
}

// justWorld has some of all that is judged, all of it right: of three letters one is
// gone to a host that proved itself, one was told openly and is known, and one is
// known to nobody.
func justWorld() impl.World {
	return worldWith(newWorld(), func(w *impl.World) {
		w.Time, w.Fresh = 40, 1010
		w.Letters, w.Book = impl.Play(justNotes()), journal(justNotes()...)
		w.Sure = len(w.Book) - 4
		w.Calls = []impl.Call{
			{Letter: 0, Client: withBody(mustBe(provedClient(impl.ClDone)), 1000), Good: true},
			{Letter: 1, Client: withBody(openClient(impl.ClBody), 1001)},
			{Letter: 2, Client: withBody(mustBe(provedClient(impl.ClMail)), 1002), Good: true},
			{Letter: 2, Client: withBody(sealedClient(impl.ClDone), 1002)},
		}
		w.Talks = []impl.Talk{{Host: 1, Server: openServer(impl.SvLine)}, {Host: 0, Server: thatGot(sealedServer(impl.SvLine), 7, 1000)}}
		w.Known = append(w.Known, atom(1001))
		w.Told = []int{1001}
	})
}

func withBody(c impl.Client, body int) impl.Client {
	c.Body = body
	return c
}

func thatGot(s impl.Server, bodies ...int) impl.Server {
	s.Got = slices.Clone(bodies)
	return s
}

// wrongs turn one thing of justWorld, so that just the one that they name is wrong.
func wrongs() map[string]struct {
	turn func(w *impl.World)
	want verdict
} {
	noSecret := verdict{held: true, taken: true, book: true}
	notHeld := verdict{secret: true, taken: true, book: true}
	notTaken := verdict{secret: true, held: true, book: true}
	noBook := verdict{secret: true, held: true, taken: true}
	return map[string]struct {
		turn func(w *impl.World)
		want verdict
	}{
		"known":              {func(w *impl.World) { w.Known = append(w.Known, atom(1002)) }, noSecret},
		"not told":           {func(w *impl.World) { w.Told = nil }, noSecret},
		"another one told":   {func(w *impl.World) { w.Told = []int{1002} }, noSecret},
		"good without need":  {func(w *impl.World) { w.Calls[1].Good = true }, notHeld},
		"good, need no more": {func(w *impl.World) { w.Calls[2].Client.Must = false }, notHeld},
		"not taken":          {func(w *impl.World) { w.Talks[1].Server.Got = []int{7} }, notTaken},
		"no talk":            {func(w *impl.World) { w.Talks = nil }, notTaken},
		"another body":       {func(w *impl.World) { w.Calls[0].Client.Body = 1003 }, notTaken},
		"done too soon":      {func(w *impl.World) { w.Calls[2].Client.Step = impl.ClDone }, notTaken},
		"torn":               {func(w *impl.World) { w.Book = w.Book[:len(w.Book)-1] }, noBook},
		"a note more":        {func(w *impl.World) { w.Book += "gone 2\n" }, noBook},
		"a letter's field":   {func(w *impl.World) { w.Letters[1].Tries++ }, noBook},
		"a letter more":      {func(w *impl.World) { w.Letters = append(w.Letters, letterOf(1, 0, 0)) }, noBook},
	}
}
