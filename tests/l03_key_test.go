package tests

import (
	"math"
	"testing"

	"loop.example/g00328/impl"
)

func isZero(t impl.Term) bool { return t.Op == 0 && t.N == 0 && t.S == "" && len(t.Kids) == 0 }

func TestAtom(t *testing.T) {
	for _, n := range []int{0, 1, 500, impl.MaxAtom} {
		if got := impl.Atom(n); order(got, atom(n)) != 0 {
			t.Error(n, shown(got))
		}
	}
	for _, n := range []int{-1, impl.MaxAtom + 1, math.MinInt, math.MaxInt} {
		if got := impl.Atom(n); !isZero(got) {
			t.Error(n, shown(got))
		}
	}
}

func TestPairAndHash(t *testing.T) {
	a := atom(3)
	for _, x := range goodTerms() {
		fits := impl.TermSize(x) < impl.MaxTerm
		if got := impl.Hash(x); fits && order(got, hash(x)) != 0 || !fits && !isZero(got) {
			t.Error("hash", shown(x), shown(got))
		}
		fits = impl.TermSize(x) < impl.MaxTerm-1
		if got := impl.Pair(x, a); fits && order(got, pair(x, a)) != 0 || !fits && !isZero(got) {
			t.Error("pair", shown(x), shown(got))
		}
		if got := impl.Pair(a, x); fits && order(got, pair(a, x)) != 0 || !fits && !isZero(got) {
			t.Error("pair", shown(x), shown(got))
		}
	}
	for _, x := range append(badTerms(), ring()) {
		if !isZero(impl.Hash(x)) || !isZero(impl.Pair(x, a)) || !isZero(impl.Pair(a, x)) || !isZero(impl.Pair(x, x)) {
			t.Error("made of what is not ok")
		}
	}
}

func TestPairAndHashAtTheLimit(t *testing.T) {
	if got := impl.Hash(tree(impl.MaxTerm - 1)); impl.TermSize(got) != impl.MaxTerm {
		t.Error("hash", shown(got))
	}
	if got := impl.Hash(tree(impl.MaxTerm)); !isZero(got) {
		t.Error("hash of too much", shown(got))
	}
	if got := impl.Pair(tree(99), tree(100)); impl.TermSize(got) != impl.MaxTerm {
		t.Error("pair", shown(got))
	}
	if got := impl.Pair(tree(100), tree(100)); !isZero(got) {
		t.Error("pair of too much", shown(got))
	}
}

func TestTermsMadeAreNewMemory(t *testing.T) {
	was := pair(hash(atom(1)), share(atom(1), pub(atom(2))))
	for name, build := range map[string]func(a, b impl.Term) impl.Term{
		"pair": impl.Pair,
		"hash": func(a, b impl.Term) impl.Term { return impl.Hash(a) },
	} {
		a, b := roomy(was), roomy(was)
		spoil(build(a, b))
		if !untouched(a, was) || !untouched(b, was) {
			t.Error(name, "writes into its arguments, or shares memory with them")
		}
		for _, kid := range build(a, a).Kids {
			if order(kid, was) != 0 {
				t.Error(name, "has lists that share memory")
			}
			spoil(kid)
		}
	}
}

// spoil overwrites all lists of kids within t, with the spare room behind them.
func spoil(t impl.Term) {
	for _, kid := range t.Kids {
		spoil(kid)
	}
	whole := t.Kids[:cap(t.Kids)]
	for i := range whole {
		whole[i] = impl.Term{Op: -9}
	}
}
