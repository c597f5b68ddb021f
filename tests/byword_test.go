package tests

import (
	"slices"
	"strings"

	"loop.example/g00328/impl"
)

type terms = []impl.Term

func alike(a, b terms) bool {
	return slices.EqualFunc(a, b, func(x, y impl.Term) bool { return order(x, y) == 0 })
}

func within(list terms, t impl.Term) bool {
	return slices.ContainsFunc(list, func(x impl.Term) bool { return order(x, t) == 0 })
}

func listed(list terms) string {
	var texts []string
	for _, t := range list {
		texts = append(texts, impl.TermText(t))
	}
	s := strings.Join(texts, " ")
	return s[:min(len(s), 300)]
}

// atoms are so many, from that one on.
func atoms(from, count int) terms {
	var list terms
	for i := range count {
		list = append(list, atom(from+i))
	}
	return list
}

// partsByWord is what the document says of Parts, told apart from the program.
func partsByWord(list terms) terms {
	var there terms
	more := false
	add := func(t impl.Term) {
		if len(there) < impl.MaxKnown && !within(there, t) {
			there = append(there, t)
			more = true
		}
	}
	for _, t := range list {
		if impl.TermOk(t) {
			add(t)
		}
	}
	for more = true; more; {
		more = false
		for i := 0; i < len(there); i++ {
			switch t := there[i]; {
			case t.Op == impl.TmPair:
				add(t.Kids[0])
				add(t.Kids[1])
			case t.Op == impl.TmSign, t.Op == impl.TmSeal && madeByWord(there, t.Kids[0]):
				add(t.Kids[1])
			}
		}
	}
	return there
}

// madeByWord is what the document says of Made, of terms that are TermOk.
func madeByWord(parts terms, t impl.Term) bool {
	switch {
	case within(parts, t) || t.Op == impl.TmText:
		return true
	case t.Op == impl.TmAtom:
		return false
	case t.Op == impl.TmShare:
		a, b := t.Kids[0], t.Kids[1]
		return madeByWord(parts, a) && madeByWord(parts, pub(b)) || madeByWord(parts, b) && madeByWord(parts, pub(a))
	}
	for _, kid := range t.Kids {
		if !madeByWord(parts, kid) {
			return false
		}
	}
	return true
}

// dice gives the same numbers in every run.
type dice uint64

func (d *dice) below(n int) int {
	*d = *d*6364136223846793005 + 1442695040888963407
	return int(*d>>33) % n
}

// term is of few atoms and texts, so that keys and what they open meet.
func (d *dice) term(depth int) impl.Term {
	ops := []int{impl.TmAtom, impl.TmAtom, impl.TmText, impl.TmPair, impl.TmPair, impl.TmPub, impl.TmShare, impl.TmHash, impl.TmSeal, impl.TmSeal, impl.TmSeal, impl.TmSign}
	if depth == 0 {
		ops = ops[:3]
	}
	switch op := ops[d.below(len(ops))]; op {
	case impl.TmAtom:
		return atom(d.below(6))
	case impl.TmText:
		return text(string(rune('a' + d.below(2))))
	case impl.TmPub, impl.TmHash:
		return term(op, d.term(depth-1))
	case impl.TmShare:
		kids := terms{d.term(depth - 1), d.term(depth - 1)}
		slices.SortFunc(kids, order)
		return term(op, kids...)
	default:
		return term(op, d.term(depth-1), d.term(depth-1))
	}
}

func (d *dice) list(depth int) terms {
	var list terms
	for range d.below(9) {
		list = append(list, d.term(d.below(depth)))
	}
	return list
}
