package tests

import (
	"fmt"
	"math"
	"strings"
	"testing"

	"loop.example/g00328/impl"
)

func allTerms() []impl.Term { return append(goodTerms(), badTerms()...) }

// shown is a term for a test's message, with what TermText leaves away.
func shown(t impl.Term) string {
	s := fmt.Sprintf("Op %d, N %d, S %q, %d kids: %q", t.Op, t.N, t.S, len(t.Kids), impl.TermText(t))
	return s[:min(len(s), 150)]
}

func TestTermConstants(t *testing.T) {
	got := [...]int{impl.TmAtom, impl.TmText, impl.TmPair, impl.TmPub, impl.TmShare, impl.TmHash, impl.TmSeal, impl.TmSign, impl.MaxTerm, impl.MaxAtom}
	if want := [...]int{1, 2, 3, 4, 5, 6, 7, 8, 200, 1000000}; got != want {
		t.Error(got)
	}
}

func TestTermOkOfGoodAndBad(t *testing.T) {
	for i, x := range goodTerms() {
		if !impl.TermOk(x) {
			t.Error("not ok:", i, shown(x))
		}
	}
	for i, x := range badTerms() {
		if impl.TermOk(x) {
			t.Error("ok:", i, shown(x))
		}
	}
}

func TestTermOkEdges(t *testing.T) {
	a, b := atom(3), atom(5)
	empty := []impl.Term{}
	for _, c := range []struct {
		name string
		term impl.Term
		want bool
	}{
		{"atom 0", atom(0), true},
		{"atom MaxAtom", atom(impl.MaxAtom), true},
		{"atom MaxAtom + 1", atom(impl.MaxAtom + 1), false},
		{"atom -1", atom(-1), false},
		{"text of 300", text(strings.Repeat("x", 300)), true},
		{"text of 301", text(strings.Repeat("x", 301)), false},
		{"text of 151 two-byte letters", text(strings.Repeat("é", 151)), false},
		{"MaxTerm within it", tree(impl.MaxTerm), true},
		{"MaxTerm + 1 within it", tree(impl.MaxTerm + 1), false},
		{"MaxTerm deep", wrapped(a, impl.MaxTerm-1), true},
		{"MaxTerm + 1 deep", wrapped(a, impl.MaxTerm), false},
		{"share in order", share(a, b), true},
		{"share in the other order", share(b, a), false},
		{"share of the same", share(a, a), true},
		{"share in order by the last reason", share(pair(a, a), pair(a, b)), true},
		{"share in the other order by the last reason", share(pair(a, b), pair(a, a)), false},
		{"share in the other order, in a share in order", share(a, share(b, a)), false},
		{"an empty list for none", impl.Term{Op: impl.TmAtom, N: 3, Kids: empty}, true},
		{"an empty list for none, of a text", impl.Term{Op: impl.TmText, S: "s", Kids: empty}, true},
		{"an empty list where two are asked", impl.Term{Op: impl.TmPair, Kids: empty}, false},
		{"N of a share of the same", impl.Term{Op: impl.TmShare, N: 1, Kids: []impl.Term{a, a}}, false},
		{"S of a share of the same", impl.Term{Op: impl.TmShare, S: "s", Kids: []impl.Term{a, a}}, false},
	} {
		if got := impl.TermOk(c.term); got != c.want {
			t.Error(c.name, got)
		}
	}
}

func TestTermOkCountsKids(t *testing.T) {
	kids := []impl.Term{atom(1), atom(2), atom(3), atom(4)}
	for op := -2; op <= 11; op++ {
		for n := range len(kids) + 1 {
			want := op >= impl.TmAtom && op <= impl.TmSign && n == kidsOf(op)
			if got := impl.TermOk(term(op, kids[:n]...)); got != want {
				t.Error("op", op, "kids", n, got)
			}
		}
	}
}

func TestTermOkLooksEverywhere(t *testing.T) {
	a := atom(3)
	for _, fault := range badTerms() {
		for op := impl.TmPair; op <= impl.TmSign; op++ {
			for place := range kidsOf(op) {
				kids := []impl.Term{a, a}[:kidsOf(op)]
				kids[place] = fault
				if impl.TermOk(pair(a, hash(term(op, kids...)))) {
					t.Error("op", op, "place", place, shown(fault))
				}
			}
		}
	}
}

func TestTermSize(t *testing.T) {
	a, b := atom(3), atom(5)
	for _, c := range []struct {
		term impl.Term
		want int
	}{
		{a, 1}, {text("abc"), 1}, {pair(a, b), 3}, {pub(a), 2}, {share(a, b), 3}, {hash(a), 2}, {seal(a, b), 3}, {sign(a, b), 3},
		{pair(b, hash(a)), 4}, {sign(pair(a, b), seal(hash(a), pub(b))), 9},
		{impl.Term{}, 1}, {impl.Term{Op: 9}, 1}, {atom(-1), 1}, {term(impl.TmPair), 1},
		{impl.Term{Op: -4, Kids: []impl.Term{a, hash(b), {}}}, 5},
		{impl.Term{Op: impl.TmAtom, Kids: []impl.Term{a, a}}, 3},
		{impl.Term{Op: impl.TmText, Kids: []impl.Term{hash(a)}}, 3},
		{share(b, a), 3}, {wrapped(a, 500), 501},
	} {
		if got := impl.TermSize(c.term); got != c.want {
			t.Error(shown(c.term), got, c.want)
		}
	}
	for n := 1; n <= 405; n++ {
		if got := impl.TermSize(tree(n)); got != n {
			t.Error("tree", n, got)
		}
	}
}

func TestSame(t *testing.T) {
	for i, x := range allTerms() {
		if !impl.Same(x, x) || !impl.Same(x, roomy(x)) || !impl.Same(roomy(x), x) {
			t.Error("not the same as itself:", i, shown(x))
		}
	}
	whole := impl.Term{Op: 3, N: 2, S: "s", Kids: []impl.Term{atom(1), hash(atom(2))}}
	for name, other := range map[string]impl.Term{
		"Op":           {Op: 4, N: 2, S: "s", Kids: whole.Kids},
		"N":            {Op: 3, N: 3, S: "s", Kids: whole.Kids},
		"S":            {Op: 3, N: 2, S: "S", Kids: whole.Kids},
		"S longer":     {Op: 3, N: 2, S: "s\x00", Kids: whole.Kids},
		"a kid fewer":  {Op: 3, N: 2, S: "s", Kids: whole.Kids[:1]},
		"no kids":      {Op: 3, N: 2, S: "s"},
		"another kid":  {Op: 3, N: 2, S: "s", Kids: []impl.Term{atom(1), hash(atom(3))}},
		"other order":  {Op: 3, N: 2, S: "s", Kids: []impl.Term{hash(atom(2)), atom(1)}},
		"a kid deeper": {Op: 3, N: 2, S: "s", Kids: []impl.Term{atom(1), hash(hash(atom(2)))}},
	} {
		if impl.Same(whole, other) || impl.Same(other, whole) {
			t.Error("the same but for", name)
		}
	}
	if !impl.Same(impl.Term{Kids: []impl.Term{}}, impl.Term{}) {
		t.Error("an empty list is no list")
	}
}

func TestBeforeByEachReason(t *testing.T) {
	one, two := atom(1), atom(2)
	low := impl.Term{Op: -3, N: -3, S: ""}
	high := impl.Term{Op: 12, N: 12, S: "z", Kids: []impl.Term{two, two, two}}
	// All reasons behind the one that decides speak for the other one.
	for _, c := range []struct {
		reason string
		a, b   impl.Term
	}{
		{"Op", impl.Term{Op: 3, N: high.N, S: high.S, Kids: high.Kids}, impl.Term{Op: 4, N: low.N}},
		{"Op below 0", impl.Term{Op: -2, N: high.N, S: high.S, Kids: high.Kids}, impl.Term{Op: -1, N: low.N}},
		{"Op far apart", impl.Term{Op: math.MinInt, N: 1}, impl.Term{Op: math.MaxInt}},
		{"N", impl.Term{Op: 3, N: 9, S: high.S, Kids: high.Kids}, impl.Term{Op: 3, N: 10}},
		{"N of any sign", impl.Term{Op: 1, N: -10, S: "z"}, impl.Term{Op: 1, N: -9}},
		{"N far apart", atom(math.MinInt), atom(math.MaxInt)},
		{"S", impl.Term{Op: 3, S: "ab", Kids: high.Kids}, impl.Term{Op: 3, S: "b"}},
		{"S that goes on", impl.Term{Op: 3, S: "a", Kids: high.Kids}, impl.Term{Op: 3, S: "a\x00"}},
		{"S empty", impl.Term{Op: 3, Kids: high.Kids}, impl.Term{Op: 3, S: "\x00"}},
		{"S by bytes", text("z"), text("\xc3\xa9")},
		{"how many kids", term(3, two), term(3, one, one)},
		{"no kids", term(3), term(3, one)},
		{"the first kid", term(3, one, two), term(3, two, one)},
		{"the second kid", term(3, one, one, two), term(3, one, two, one)},
		{"the last kid", term(3, one, one, one), term(3, one, one, two)},
		{"within the first kid", term(3, pair(one, one), two), term(3, pair(one, two), one)},
		{"within the second kid", term(3, one, hash(hash(one))), term(3, one, hash(hash(two)))},
		{"a kid's Op ahead of its N", pair(atom(9), one), pair(text(""), one)},
		{"a kid of fewer kids", pair(term(3, two), two), pair(term(3, one, one), one)},
	} {
		if !impl.Before(c.a, c.b) {
			t.Error("not before by", c.reason)
		}
		if impl.Before(c.b, c.a) {
			t.Error("the wrong way round by", c.reason)
		}
		if impl.Same(c.a, c.b) {
			t.Error("the same by", c.reason)
		}
	}
}

func TestOfTwoJustOneIsBefore(t *testing.T) {
	list := allTerms()
	for i, a := range list {
		for j, b := range list {
			before, behind, same := impl.Before(a, b), impl.Before(b, a), impl.Same(a, b)
			if same != (i == j) {
				t.Error("same:", i, j, shown(a), shown(b))
			}
			if same && (before || behind) || !same && before == behind {
				t.Error("not just one:", i, j, shown(a), shown(b), before, behind, same)
			}
			if before != (order(a, b) < 0) {
				t.Error("order:", i, j, shown(a), shown(b))
			}
		}
	}
}

func TestBeforeGoesOn(t *testing.T) {
	list := allTerms()
	for _, a := range list {
		for _, b := range list {
			if !impl.Before(a, b) {
				continue
			}
			for _, c := range list {
				if impl.Before(b, c) && !impl.Before(a, c) {
					t.Error(shown(a), shown(b), shown(c))
				}
			}
		}
	}
}

func TestTermText(t *testing.T) {
	a, b := atom(3), atom(5)
	for _, c := range []struct {
		term impl.Term
		want string
	}{
		{atom(0), "0"}, {atom(impl.MaxAtom), "1000000"}, {text(""), "<>"}, {text("220"), "<220>"}, {text("<,>"), "<<,>>"}, {text("\xff\n"), "<\xff\n>"},
		{pair(a, b), "pair(3,5)"}, {pub(a), "pub(3)"}, {share(a, b), "share(3,5)"}, {hash(a), "hash(3)"}, {seal(a, b), "seal(3,5)"}, {sign(a, b), "sign(3,5)"},
		{sign(pair(a, text("x y")), seal(hash(a), pub(share(a, b)))), "sign(pair(3,<x y>),seal(hash(3),pub(share(3,5))))"},
		{atom(-1), "-1"}, {atom(impl.MaxAtom + 1), "1000001"}, {atom(math.MinInt), "-9223372036854775808"}, {atom(math.MaxInt), "9223372036854775807"},
		{impl.Term{}, "?"}, {impl.Term{Op: 9}, "?"}, {impl.Term{Op: -1}, "?"}, {impl.Term{Op: math.MinInt}, "?"}, {impl.Term{Op: math.MaxInt}, "?"},
		{impl.Term{Op: 9, N: 3, S: "s", Kids: []impl.Term{a}}, "?"},
		{pair(a, impl.Term{}), "pair(3,?)"}, {pair(impl.Term{Op: -1, Kids: []impl.Term{b}}, a), "pair(?,3)"}, {hash(sign(impl.Term{Op: 9}, a)), "hash(sign(?,3))"},
		{impl.Term{Op: impl.TmAtom, N: 4, S: "s", Kids: []impl.Term{a}}, "4"}, {impl.Term{Op: impl.TmText, N: 4, S: "s", Kids: []impl.Term{a}}, "<s>"},
		{impl.Term{Op: impl.TmPub, N: 4, S: "s", Kids: []impl.Term{a}}, "pub(3)"},
		{term(impl.TmPub), "pub()"}, {term(impl.TmPair), "pair()"}, {term(impl.TmPair, a), "pair(3)"}, {term(impl.TmHash, a, b, a), "hash(3,5,3)"},
		{term(impl.TmSeal, term(impl.TmSeal), term(impl.TmSeal, a), term(impl.TmSeal)), "seal(seal(),seal(3),seal())"},
		{share(b, a), "share(5,3)"}, {text(strings.Repeat("x", 301)), "<" + strings.Repeat("x", 301) + ">"},
	} {
		if got := impl.TermText(c.term); got != c.want {
			t.Errorf("%q, not %q", got, c.want)
		}
	}
}

func TestTermsAreNotWrittenInto(t *testing.T) {
	list := allTerms()
	for i, x := range list {
		y := list[(i+1)%len(list)]
		a, b, same := roomy(x), roomy(y), roomy(x)
		impl.TermOk(a)
		impl.TermSize(a)
		impl.TermText(a)
		impl.Same(a, b)
		impl.Same(a, same)
		impl.Before(a, b)
		impl.Before(b, a)
		impl.Before(a, same)
		impl.TermOk(impl.Term{Op: impl.TmShare, Kids: []impl.Term{a, b}})
		if !untouched(a, x) || !untouched(b, y) || !untouched(same, x) {
			t.Error("written into:", i, shown(x))
		}
	}
}

func TestTermsOfAnySize(t *testing.T) {
	const many = 1000000
	deep, deeper := wrapped(atom(1), many), wrapped(atom(2), many)
	if impl.TermOk(deep) || impl.TermSize(deep) != many+1 || !impl.Same(deep, deep) || impl.Same(deep, deeper) || !impl.Before(deep, deeper) || impl.Before(deeper, deep) {
		t.Error("deep")
	}
	if got := impl.TermText(deep); got != strings.Repeat("hash(", many)+"1"+strings.Repeat(")", many) {
		t.Error("text of deep", len(got))
	}
	wide := term(impl.TmPair, make([]impl.Term, many)...)
	if impl.TermOk(wide) || impl.TermSize(wide) != many+1 || !impl.Same(wide, wide) || len(impl.TermText(wide)) != len("pair()")+2*many-1 {
		t.Error("wide")
	}
}

func TestTermOkAnswersWhereThereIsNoEnd(t *testing.T) {
	x := ring()
	if impl.TermOk(x) || impl.TermOk(pair(atom(1), x)) || impl.TermOk(share(x, x)) {
		t.Error("ok")
	}
	doubled := atom(1)
	for range 100 {
		doubled = share(doubled, doubled)
	}
	if impl.TermOk(doubled) {
		t.Error("ok of more than can be counted")
	}
	if impl.Same(x, atom(1)) || !impl.Before(x, seal(x, x)) || impl.Before(seal(x, x), x) {
		t.Error("told apart by Op")
	}
}
