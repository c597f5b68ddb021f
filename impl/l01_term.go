package impl

import (
	"cmp"
	"math"
	"strconv"
	"strings"
)

const (
	TmAtom = iota + 1
	TmText
	TmPair
	TmPub
	TmShare
	TmHash
	TmSeal
	TmSign
)

const (
	MaxTerm = 200
	MaxAtom = 1000000
)

// maxText is how many bytes the S of a TmText has at most.
const maxText = 300

type Term struct {
	Op   int
	N    int
	S    string
	Kids []Term
}

// kind is a term seen as what its Op says it is.
type kind interface {
	// shaped tells whether the term has what its kind asks for and nothing
	// else; what its kids are like within is not asked.
	shaped() bool
}

type (
	atomTerm    Term
	textTerm    Term
	pairTerm    Term
	pubTerm     Term
	shareTerm   Term
	hashTerm    Term
	sealTerm    Term
	signTerm    Term
	unknownTerm Term
)

func kindOf(t Term) kind {
	switch t.Op {
	case TmAtom:
		return atomTerm(t)
	case TmText:
		return textTerm(t)
	case TmPair:
		return pairTerm(t)
	case TmPub:
		return pubTerm(t)
	case TmShare:
		return shareTerm(t)
	case TmHash:
		return hashTerm(t)
	case TmSeal:
		return sealTerm(t)
	case TmSign:
		return signTerm(t)
	}
	return unknownTerm(t)
}

func (t atomTerm) shaped() bool {
	return t.N >= 0 && t.N <= MaxAtom && t.S == "" && len(t.Kids) == 0
}

func (t textTerm) shaped() bool {
	return t.N == 0 && len(t.S) <= maxText && len(t.Kids) == 0
}

func (t pairTerm) shaped() bool { return onlyKids(Term(t), 2) }

func (t pubTerm) shaped() bool { return onlyKids(Term(t), 1) }

func (t shareTerm) shaped() bool {
	return onlyKids(Term(t), 2) && !Before(t.Kids[1], t.Kids[0])
}

func (t hashTerm) shaped() bool { return onlyKids(Term(t), 1) }

func (t sealTerm) shaped() bool { return onlyKids(Term(t), 2) }

func (t signTerm) shaped() bool { return onlyKids(Term(t), 2) }

func (t unknownTerm) shaped() bool { return false }

func onlyKids(t Term, count int) bool {
	return t.N == 0 && t.S == "" && len(t.Kids) == count
}

func TermOk(t Term) bool {
	// The size comes first: all that is asked behind it walks through the
	// whole term, which may be of any size.
	return sizeUpTo(t, MaxTerm+1) <= MaxTerm && allShaped(t)
}

func allShaped(t Term) bool {
	if !kindOf(t).shaped() {
		return false
	}
	for _, kid := range t.Kids {
		if !allShaped(kid) {
			return false
		}
	}
	return true
}

func TermSize(t Term) int { return sizeUpTo(t, math.MaxInt) }

// sizeUpTo counts no further than most. What is still to be counted stands in
// a list of its own: a term that is not TermOk may be deeper than calls can go.
func sizeUpTo(t Term, most int) int {
	size := 1
	rest := []Term{t}
	for len(rest) > 0 && size < most {
		last := len(rest) - 1
		kids := rest[last].Kids
		rest = append(rest[:last], kids...)
		size += len(kids)
	}
	return min(size, most)
}

func Same(a Term, b Term) bool { return compare(a, b) == 0 }

func Before(a Term, b Term) bool { return compare(a, b) < 0 }

type termPair struct{ a, b Term }

// compare is below 0, 0 or above 0, as a is before b, the same, or behind it.
// One walk tells all three, so that no kid is gone through twice.
func compare(a Term, b Term) int {
	rest := []termPair{{a, b}}
	for len(rest) > 0 {
		last := len(rest) - 1
		next := rest[last]
		rest = rest[:last]
		if order := compareHeads(next.a, next.b); order != 0 {
			return order
		}
		// Backwards, since the first kids are to be taken first.
		for i := len(next.a.Kids) - 1; i >= 0; i-- {
			rest = append(rest, termPair{next.a.Kids[i], next.b.Kids[i]})
		}
	}
	return 0
}

func compareHeads(a Term, b Term) int {
	return cmp.Or(
		cmp.Compare(a.Op, b.Op),
		cmp.Compare(a.N, b.N),
		cmp.Compare(a.S, b.S),
		cmp.Compare(len(a.Kids), len(b.Kids)),
	)
}

// piece is something still to be written: a mark, or a term where mark is empty.
type piece struct {
	mark string
	term Term
}

func TermText(t Term) string {
	var text []byte
	rest := []piece{{term: t}}
	for len(rest) > 0 {
		last := len(rest) - 1
		next := rest[last]
		rest = rest[:last]
		if next.mark != "" {
			text = append(text, next.mark...)
			continue
		}
		word, withKids := termWord(next.term)
		text = append(text, word...)
		if withKids {
			text = append(text, '(')
			rest = addKids(rest, next.term.Kids)
		}
	}
	return string(text)
}

// termWord is how the text of t begins, and whether its kids follow.
func termWord(t Term) (string, bool) {
	switch k := kindOf(t).(type) {
	case atomTerm:
		return strconv.Itoa(k.N), false
	case textTerm:
		return "<" + k.S + ">", false
	case pairTerm:
		return "pair", true
	case pubTerm:
		return "pub", true
	case shareTerm:
		return "share", true
	case hashTerm:
		return "hash", true
	case sealTerm:
		return "seal", true
	case signTerm:
		return "sign", true
	}
	return "?", false
}

// addKids puts kids, and the marks between and behind them, on top of rest,
// backwards, since what is on top is written first.
func addKids(rest []piece, kids []Term) []piece {
	rest = append(rest, piece{mark: ")"})
	for i := len(kids) - 1; i >= 0; i-- {
		rest = append(rest, piece{term: kids[i]})
		if i > 0 {
			rest = append(rest, piece{mark: ","})
		}
	}
	return rest
}

// copyTerm is t in memory of its own, its texts too. As in sizeUpTo, what is
// still to be copied stands in a list of its own.
func copyTerm(t Term) Term {
	rest := []*Term{&t}
	for len(rest) > 0 {
		last := len(rest) - 1
		next := rest[last]
		rest = rest[:last]
		next.S = strings.Clone(next.S)
		next.Kids = append([]Term(nil), next.Kids...)
		for i := range next.Kids {
			rest = append(rest, &next.Kids[i])
		}
	}
	return t
}

// endless is how many within it make a term one that has no end: so many that
// nobody has written them out.
const endless = 1 << 20

// anyTerm is t in memory of its own, whether it is TermOk or not. Of one that has
// no end no copy can be made: it is answered as it stands.
func anyTerm(t Term) Term {
	if sizeUpTo(t, endless) == endless {
		return t
	}
	return copyTerm(t)
}
