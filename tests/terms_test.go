package tests

import (
	"math"
	"strings"

	"loop.example/g00328/impl"
)

// The terms are written out here, not made by the program, so that those that
// are not TermOk can be had too.

func term(op int, kids ...impl.Term) impl.Term { return impl.Term{Op: op, Kids: kids} }

func atom(n int) impl.Term { return impl.Term{Op: impl.TmAtom, N: n} }

func text(s string) impl.Term { return impl.Term{Op: impl.TmText, S: s} }

func pair(a, b impl.Term) impl.Term { return term(impl.TmPair, a, b) }

func pub(a impl.Term) impl.Term { return term(impl.TmPub, a) }

func share(a, b impl.Term) impl.Term { return term(impl.TmShare, a, b) }

func hash(a impl.Term) impl.Term { return term(impl.TmHash, a) }

func seal(key, body impl.Term) impl.Term { return term(impl.TmSeal, key, body) }

func sign(key, body impl.Term) impl.Term { return term(impl.TmSign, key, body) }

// wrapped is t within so many hashes.
func wrapped(t impl.Term, times int) impl.Term {
	for range times {
		t = hash(t)
	}
	return t
}

// tree has so many within it, itself too, and both hashes and pairs among them.
func tree(size int) impl.Term {
	switch {
	case size < 2:
		return atom(size)
	case size%2 == 0:
		return hash(tree(size - 1))
	}
	return pair(tree((size-1)/2), tree(size-1-(size-1)/2))
}

// ring has itself as its kid, so that there is no end to it.
func ring() impl.Term {
	kids := make([]impl.Term, 1)
	kids[0] = impl.Term{Op: impl.TmHash, Kids: kids}
	return kids[0]
}

// goodTerms are TermOk, of every Op, one within the other, no two the same.
func goodTerms() []impl.Term {
	a, b := atom(3), atom(5)
	key := hash(pair(share(a, b), text("1")))
	list := []impl.Term{
		atom(0), atom(1), a, b, atom(10), atom(impl.MaxAtom),
		text(""), text("0"), text("220"), text("a"), text("ab"), text("b"), text("\x00"), text("\xff"), text(",)>"),
		text(strings.Repeat("x", 300)),
		pair(a, b), pair(b, a), pair(a, a), pair(text("3"), a), pair(pair(a, b), a), pair(a, pair(b, a)),
		pub(a), pub(b), pub(pub(a)), pub(text("")),
		share(a, b), share(a, a), share(b, text("")), share(text("3"), pub(a)), share(a, pub(b)),
		hash(a), hash(b), hash(hash(a)), key, hash(share(a, b)),
		seal(a, b), seal(b, a), seal(key, pair(text("0"), text("done"))),
		sign(a, b), sign(b, a), sign(atom(1), pair(text("mx.a"), pair(pub(a), text("100")))),
		tree(199), tree(200), wrapped(a, 199),
	}
	for op := impl.TmPair; op <= impl.TmSign; op++ {
		kids := []impl.Term{pub(a), sign(seal(a, text("s")), key)}
		list = append(list, term(op, kids[2-kidsOf(op):]...))
	}
	return list
}

// badTerms are not TermOk, no two the same.
func badTerms() []impl.Term {
	a, b := atom(3), atom(5)
	list := []impl.Term{
		{}, {Op: 9}, {Op: -1}, {Op: math.MinInt}, {Op: math.MaxInt},
		{Op: 0, N: 4, S: "s", Kids: []impl.Term{a}}, {Op: 9, Kids: []impl.Term{a}},
		atom(-1), atom(impl.MaxAtom + 1), atom(math.MinInt), atom(math.MaxInt),
		{Op: impl.TmAtom, S: "s"}, {Op: impl.TmAtom, Kids: []impl.Term{a}}, {Op: impl.TmAtom, N: 3, S: "s"},
		text(strings.Repeat("x", 301)), text(strings.Repeat("y", 301)),
		{Op: impl.TmText, N: 1}, {Op: impl.TmText, N: -1, S: "s"}, {Op: impl.TmText, S: "s", Kids: []impl.Term{a}},
		share(b, a), share(text(""), a), share(pub(b), pub(a)), share(hash(a), share(a, b)),
		tree(201), wrapped(a, 200), tree(400),
	}
	for op := impl.TmPair; op <= impl.TmSign; op++ {
		list = append(list, withWrongParts(op, kidsOf(op))...)
	}
	for _, fault := range []impl.Term{{}, {Op: 9}, atom(-1), share(b, a), {Op: impl.TmPub, N: 1, Kids: []impl.Term{a}}} {
		list = append(list, pair(a, fault), hash(pair(pub(sign(a, hash(fault))), b)), wrapped(fault, 150))
	}
	return list
}

// withWrongParts are terms of an Op that has so many kids, with fewer or more
// of them, or with N or S, of which it has none.
func withWrongParts(op, count int) []impl.Term {
	kids := []impl.Term{atom(3), atom(5), atom(7), atom(9)}
	var list []impl.Term
	for n := range len(kids) + 1 {
		if n != count {
			list = append(list, term(op, kids[:n]...))
		}
	}
	right := kids[:count]
	return append(list,
		impl.Term{Op: op, N: 1, Kids: right},
		impl.Term{Op: op, N: -1, Kids: right},
		impl.Term{Op: op, S: "s", Kids: right},
	)
}

func kidsOf(op int) int {
	switch op {
	case impl.TmAtom, impl.TmText:
		return 0
	case impl.TmPub, impl.TmHash:
		return 1
	}
	return 2
}

const spareRoom = 3

// roomy is t with spare room behind each list of kids, something in all of it.
func roomy(t impl.Term) impl.Term {
	kids := make([]impl.Term, 0, len(t.Kids)+spareRoom)
	for _, kid := range t.Kids {
		kids = append(kids, roomy(kid))
	}
	whole := kids[:cap(kids)]
	for i := len(kids); i < len(whole); i++ {
		whole[i] = impl.Term{Op: -7, N: i, S: "spare"}
	}
	t.Kids = kids
	return t
}

// untouched tells whether t is as roomy made it of was, with its spare room.
func untouched(t, was impl.Term) bool {
	if t.Op != was.Op || t.N != was.N || t.S != was.S || len(t.Kids) != len(was.Kids) {
		return false
	}
	for i, kid := range t.Kids {
		if !untouched(kid, was.Kids[i]) {
			return false
		}
	}
	whole := t.Kids[:cap(t.Kids)]
	for i := len(t.Kids); i < len(whole); i++ {
		if whole[i].Op != -7 || whole[i].N != i || whole[i].S != "spare" || whole[i].Kids != nil {
			return false
		}
	}
	return true
}

// roomyList is list with spare room behind it and behind all within it.
func roomyList(list []impl.Term) []impl.Term { return roomy(term(impl.TmPair, list...)).Kids }

// untouchedList tells whether list is as roomyList made it of was.
func untouchedList(list, was []impl.Term) bool {
	return untouched(term(impl.TmPair, list...), term(impl.TmPair, was...))
}

// order is what the document says of Before, told apart from the program:
// below 0, 0, above 0.
func order(a, b impl.Term) int {
	switch {
	case a.Op != b.Op:
		return sooner(a.Op < b.Op)
	case a.N != b.N:
		return sooner(a.N < b.N)
	case a.S != b.S:
		return sooner(a.S < b.S)
	case len(a.Kids) != len(b.Kids):
		return sooner(len(a.Kids) < len(b.Kids))
	}
	for i := range a.Kids {
		if o := order(a.Kids[i], b.Kids[i]); o != 0 {
			return o
		}
	}
	return 0
}

func sooner(yes bool) int {
	if yes {
		return -1
	}
	return 1
}
