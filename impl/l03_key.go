package impl

import (
	"errors"
	"strconv"
)

// errNoTerm names what can't be made, and what can't be undone by what it was not
// made by.
var errNoTerm = errors.New("there is no such term")

func Atom(n int) Term { return newTerm(Term{Op: TmAtom, N: n}) }

func Pair(a Term, b Term) Term { return newTerm(Term{Op: TmPair, Kids: []Term{a, b}}) }

func Pub(a Term) Term { return newTerm(Term{Op: TmPub, Kids: []Term{a}}) }

func Hash(a Term) Term { return newTerm(Term{Op: TmHash, Kids: []Term{a}}) }

func Agree(secret Term, pub Term) (Term, bool) { return answer(shareOf(secret, pub)) }

func shareOf(secret Term, pub Term) (Term, error) {
	other, err := kidOfPub(pub)
	if err != nil {
		return Term{}, err
	}
	// Without secret being TermOk, the two may have no order: they may have no end.
	first, err := checked(secret)
	if err != nil {
		return Term{}, err
	}
	if Before(other, first) {
		first, other = other, first
	}
	return checked(Term{Op: TmShare, Kids: []Term{first, other}})
}

func KeyOf(share Term, n int) Term { return Hash(Pair(share, digits(n))) }

func Seal(key Term, n int, body Term) Term {
	numbered := Term{Op: TmPair, Kids: []Term{digits(n), body}}
	return newTerm(Term{Op: TmSeal, Kids: []Term{key, numbered}})
}

// digits is the text of n.
func digits(n int) Term { return Term{Op: TmText, S: strconv.Itoa(n)} }

func Open(key Term, n int, t Term) (Term, bool) { return answer(bodyOfSeal(key, n, t)) }

func bodyOfSeal(key Term, n int, t Term) (Term, error) {
	numbered, err := behind(TmSeal, key, t)
	if err != nil {
		return Term{}, err
	}
	// The number is held against its text as Seal writes it: a text that only
	// reads as the same number, like 01, is another one.
	return behind(TmPair, digits(n), numbered)
}

func Sign(key Term, body Term) Term { return newTerm(Term{Op: TmSign, Kids: []Term{key, body}}) }

func Signed(pub Term, t Term) (Term, bool) { return answer(bodyOfSign(pub, t)) }

func bodyOfSign(pub Term, t Term) (Term, error) {
	key, err := kidOfPub(pub)
	if err != nil {
		return Term{}, err
	}
	return behind(TmSign, key, t)
}

// kidOfPub asks for no more than the kid: what is made of it, or held against
// it, tells whether it is TermOk.
func kidOfPub(pub Term) (Term, error) {
	if pub.Op != TmPub || len(pub.Kids) != 1 {
		return Term{}, errNoTerm
	}
	return pub.Kids[0], nil
}

// behind is the second kid of t, where t is of that Op, one that has two kids,
// and has that first kid.
func behind(op int, first Term, t Term) (Term, error) {
	if t.Op != op || !TermOk(t) || !Same(t.Kids[0], first) {
		return Term{}, errNoTerm
	}
	return t.Kids[1], nil
}

// checked is t, where it is TermOk.
func checked(t Term) (Term, error) {
	if !TermOk(t) {
		return Term{}, errNoTerm
	}
	return t, nil
}

// newTerm is t in memory of its own; zero, where t is not TermOk.
func newTerm(t Term) Term {
	made, _ := answer(checked(t))
	return made
}

// answer is t in memory of its own, since an answer shares none with what was
// handed in.
func answer(t Term, err error) (Term, bool) {
	if errors.Is(err, errNoTerm) {
		return Term{}, false
	}
	return copyTerm(t), true
}
