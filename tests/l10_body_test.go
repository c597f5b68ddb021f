package tests

import (
	"slices"
	"testing"

	"loop.example/g00328/impl"
)

// withLetter is s behind a letter that it took.
func withLetter(s impl.Server, letter int) (impl.Server, terms) {
	made, said := answering(s, impl.SvLine, "250")
	made.Got = append(slices.Clone(s.Got), letter)
	return made, said
}

func bodies() []impl.Server {
	return []impl.Server{openServer(impl.SvBody), sealedServer(impl.SvBody)}
}

func TestTakeBody(t *testing.T) {
	for _, s := range bodies() {
		for _, letter := range []int{30, 0, 1, 7, 5, impl.MaxAtom} {
			want, says := withLetter(s, letter)
			takes(t, s, sentTo(s, pair(text("body"), atom(letter))), want, says...)
		}
	}
	got, said := impl.ServerHear(openServer(impl.SvBody), pair(text("body"), atom(30)))
	if !slices.Equal(got.Got, []int{7, 5, 7, 30}) || listed(said) != "<250>" || got.Step != impl.SvLine {
		t.Error(toldServer(got), listed(said))
	}
	got, said = impl.ServerHear(sealedServer(impl.SvBody), sealedLine(share(atom(20), atom(40)), 1, 3, pair(text("body"), atom(30))))
	if !slices.Equal(got.Got, []int{7, 5, 7, 30}) || listed(said) != "seal(hash(pair(share(20,40),<2>)),pair(<5>,<250>))" || got.In != 4 || got.Out != 6 {
		t.Error(toldServer(got), listed(said))
	}
}

// It takes 20 at most, whichever they are.
func TestTakeBodyUpToTwenty(t *testing.T) {
	for _, base := range bodies() {
		for count := range 21 {
			s := serverWith(base, func(s *impl.Server) {
				s.Got = nil
				for i := range count {
					s.Got = append(s.Got, 100-i)
				}
			})
			x := sentTo(s, pair(text("body"), atom(30)))
			if count == 20 {
				takes(t, s, x, failed(counted(s)))
				continue
			}
			want, says := withLetter(s, 30)
			takes(t, s, x, want, says...)
			if len(want.Got) != count+1 || want.Got[count] != 30 || !impl.ServerOk(want) {
				t.Error(toldServer(want))
			}
		}
	}
}

func TestTakeBodiesOneBehindTheOther(t *testing.T) {
	for _, s := range []impl.Server{openServer(impl.SvLine), serverWith(sealedServer(impl.SvLine), func(s *impl.Server) { s.In, s.Out = 1, 0 })} {
		s.Got = nil
		for i := range 20 {
			s, _ = impl.ServerHear(s, sentTo(s, text("data")))
			s, _ = impl.ServerHear(s, sentTo(s, pair(text("body"), atom(1000-i))))
			if s.Step != impl.SvLine || len(s.Got) != i+1 || s.Got[i] != 1000-i || s.Got[0] != 1000 || !impl.ServerOk(s) {
				t.Fatal(i, toldServer(s))
			}
		}
		s, _ = impl.ServerHear(s, sentTo(s, text("data")))
		got, said := impl.ServerHear(s, sentTo(s, pair(text("body"), atom(1))))
		if got.Step != impl.SvFail || len(got.Got) != 20 || len(said) != 0 || !impl.ServerOk(got) {
			t.Error("one more than 20:", toldServer(got))
		}
	}
}

// noBodies are TermOk, and no pair of the text body and an atom.
func noBodies() terms {
	letter := atom(30)
	list := terms{
		letter, text("body"), pair(letter, text("body")), pair(letter, letter), pair(text("body"), text("30")), pair(text("body"), text("body")), pair(text("body"), pub(letter)), pair(text("body"), hash(letter)), pair(text("body"), pair(letter, letter)), pair(text("body"), pair(text("body"), letter)),
		pair(hash(text("body")), letter), pair(pair(text("body"), letter), letter), sign(text("body"), letter), seal(text("body"), letter), share(letter, text("body")), hash(pair(text("body"), letter)), pub(pair(text("body"), letter)),
		helloOf(letter), doneOf(share(atom(20), atom(40))),
	}
	for _, word := range []string{"", "bod", "ody", "Body", "BODY", "body ", " body", "body\n", "body\x00", "bbody", "bodyy", "mail", "data", "done", "hello", "250", "b0dy"} {
		list = append(list, pair(text(word), letter))
	}
	for _, line := range spoken() {
		list = append(list, text(line))
	}
	return list
}

func TestTakeBodyHearsNothingElse(t *testing.T) {
	for _, s := range bodies() {
		for _, x := range append(noBodies(), shortTerms()...) {
			takes(t, s, sentTo(s, x), failed(counted(s)))
		}
	}
}

// Where there is a seal nothing is taken that was told in the open, nor by another seal.
func TestTakeBodyInTheOpenIsNotForASeal(t *testing.T) {
	s := sealedServer(impl.SvBody)
	body := pair(text("body"), atom(30))
	for _, x := range append(noBodies(), body, sealedLine(s.Share, 2, s.In, body), sealedLine(s.Share, 2, s.Out, body), sealedLine(s.Share, 0, s.In, body), sealedLine(s.Share, 1, s.In-1, body), sealedLine(s.Share, 1, s.In+1, body), sealedLine(s.Share, 1, s.Out, body), sealedLine(share(atom(20), atom(41)), 1, s.In, body), pair(text("body"), sentTo(s, atom(30)))) {
		takes(t, s, x, failed(s))
	}
}

// A letter is taken at SvBody alone.
func TestTakeBodyAtAnotherStep(t *testing.T) {
	body := pair(text("body"), atom(30))
	for _, s := range servers() {
		if s.Step == impl.SvBody {
			continue
		}
		for _, x := range (terms{body, sentTo(s, body), sealedLine(share(atom(20), atom(40)), 1, 0, body), sealedLine(share(atom(20), atom(40)), 1, 3, body)}) {
			if got, said := impl.ServerHear(s, x); got.Step != impl.SvFail || len(got.Got) != 3 || len(said) != 0 {
				t.Error(toldServer(s), toldServer(got), listed(said))
			}
		}
	}
}
