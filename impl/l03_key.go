package impl

import "strconv"

func Atom(n int) Term { return newTerm(Term{Op: TmAtom, N: n}) }

func Pair(a Term, b Term) Term { return newTerm(Term{Op: TmPair, Kids: []Term{a, b}}) }

func Pub(a Term) Term { return newTerm(Term{Op: TmPub, Kids: []Term{a}}) }

func Hash(a Term) Term { return newTerm(Term{Op: TmHash, Kids: []Term{a}}) }

// newTerm is t in memory of its own, since an answer shares none with what was
// handed in; zero, where t is not TermOk.
func newTerm(t Term) Term {
	if !TermOk(t) {
		return Term{}
	}
	return copyTerm(t)
}

func Agree(secret Term, pub Term) (Term, bool) {
	// Without secret being TermOk, the two may have no order: they may have no end.
	if pub.Op != TmPub || len(pub.Kids) != 1 || !TermOk(secret) {
		return Term{}, false
	}
	first, second := secret, pub.Kids[0]
	if Before(second, first) {
		first, second = second, first
	}
	share := newTerm(Term{Op: TmShare, Kids: []Term{first, second}})
	return share, share.Op == TmShare
}

func KeyOf(share Term, n int) Term { return Term{Op: -1} }

func Seal(key Term, n int, body Term) Term {
	numbered := Term{Op: TmPair, Kids: []Term{digits(n), body}}
	return newTerm(Term{Op: TmSeal, Kids: []Term{key, numbered}})
}

// digits is the text of n.
func digits(n int) Term { return Term{Op: TmText, S: strconv.Itoa(n)} }

func Open(key Term, n int, t Term) (Term, bool) { return Term{Op: -1}, false }

func Sign(key Term, body Term) Term { return newTerm(Term{Op: TmSign, Kids: []Term{key, body}}) }

func Signed(pub Term, t Term) (Term, bool) { return Term{Op: -1}, false }
