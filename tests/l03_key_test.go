package tests

import (
	"math"
	"testing"

	"loop.example/g00328/impl"
)

func isZero(t impl.Term) bool { return t.Op == 0 && t.N == 0 && t.S == "" && len(t.Kids) == 0 }

func TestAtom(t *testing.T) {
	for _, n := range []int{0, 1, 500, impl.MaxAtom} {
		if got := impl.Atom(n); order(got, atom(n)) != 0 {
			t.Error(n, shown(got))
		}
	}
	for _, n := range []int{-1, impl.MaxAtom + 1, math.MinInt, math.MaxInt} {
		if got := impl.Atom(n); !isZero(got) {
			t.Error(n, shown(got))
		}
	}
}

// one and two are how the program makes a term of one kid, or of two, and what
// it is to be.
type one struct{ build, want func(a impl.Term) impl.Term }

type two struct {
	build, want func(a, b impl.Term) impl.Term
}

func termsOfOne() map[string]one {
	made := map[string]one{"hash": {impl.Hash, hash}, "pub": {impl.Pub, pub}, "hello": {impl.Hello, helloOf}, "done": {impl.Done, doneOf}}
	for n, digits := range numbers() {
		made["key of "+digits] = one{keyBy(n), keyedBy(digits)}
	}
	return made
}

// numbers are written out, not made by the program.
func numbers() map[int]string {
	return map[int]string{
		0: "0", 1: "1", 2: "2", 9: "9", 10: "10", 11: "11", 12: "12", 21: "21", 100: "100", 120: "120",
		-1: "-1", -2: "-2", -9: "-9", -10: "-10", -11: "-11", -12: "-12", -100: "-100",
		math.MaxInt: "9223372036854775807", math.MaxInt - 1: "9223372036854775806",
		math.MinInt: "-9223372036854775808", math.MinInt + 1: "-9223372036854775807",
	}
}

func keyBy(n int) func(share impl.Term) impl.Term {
	return func(share impl.Term) impl.Term { return impl.KeyOf(share, n) }
}

func keyedBy(digits string) func(share impl.Term) impl.Term {
	return func(share impl.Term) impl.Term { return hash(pair(share, text(digits))) }
}

func termsOfTwo() map[string]two {
	made := map[string]two{"pair": {impl.Pair, pair}, "sign": {impl.Sign, sign}, "agree": {agreed, shareOf}, "both": {impl.Both, bothOf}}
	for n, digits := range numbers() {
		made["seal by "+digits] = two{sealBy(n), sealedBy(digits)}
	}
	return made
}

func sealBy(n int) func(key, body impl.Term) impl.Term {
	return func(key, body impl.Term) impl.Term { return impl.Seal(key, n, body) }
}

func sealedBy(digits string) func(key, body impl.Term) impl.Term {
	return func(key, body impl.Term) impl.Term { return seal(key, pair(text(digits), body)) }
}

func agreed(secret, other impl.Term) impl.Term {
	share, done := impl.Agree(secret, pub(other))
	if done == isZero(share) {
		return impl.Term{Op: -5}
	}
	return share
}

func shareOf(a, b impl.Term) impl.Term {
	if order(b, a) < 0 {
		a, b = b, a
	}
	return share(a, b)
}

// fitting tells whether got is want, where that is TermOk, and zero otherwise.
func fitting(got, want impl.Term) bool {
	if !impl.TermOk(want) {
		return isZero(got)
	}
	return order(got, want) == 0
}

func TestTermsOfGoodKids(t *testing.T) {
	for _, x := range goodTerms() {
		for name, made := range termsOfOne() {
			if got := made.build(x); !fitting(got, made.want(x)) {
				t.Error(name, shown(x), shown(got))
			}
		}
		for name, made := range termsOfTwo() {
			for _, y := range goodTerms() {
				if got := made.build(x, y); !fitting(got, made.want(x, y)) {
					t.Error(name, shown(x), shown(y), shown(got))
				}
			}
		}
	}
}

func TestTermsOfBadKids(t *testing.T) {
	a := atom(3)
	for i, x := range append(badTerms(), ring()) {
		for name, made := range termsOfOne() {
			if got := made.build(x); !isZero(got) {
				t.Error(name, i, shown(got))
			}
		}
		for name, made := range termsOfTwo() {
			if !isZero(made.build(x, a)) || !isZero(made.build(a, x)) || !isZero(made.build(x, x)) {
				t.Error(name, i)
			}
		}
	}
}

func TestTermsAtTheLimit(t *testing.T) {
	for name, made := range termsOfOne() {
		room := impl.MaxTerm - impl.TermSize(made.want(atom(1))) + 1
		if got := made.build(tree(room)); impl.TermSize(got) != impl.MaxTerm {
			t.Error(name, shown(got))
		}
		for size := room + 1; size <= impl.MaxTerm+1; size++ {
			if got := made.build(tree(size)); !isZero(got) {
				t.Error(name, "of", size, shown(got))
			}
		}
	}
	for name, made := range termsOfTwo() {
		room := impl.MaxTerm - impl.TermSize(made.want(atom(1), atom(1))) + 2
		for _, first := range []int{1, 2, 99, 100, room - 2, room - 1} {
			if got := made.build(tree(first), tree(room-first)); impl.TermSize(got) != impl.MaxTerm {
				t.Error(name, first, shown(got))
			}
			if got := made.build(tree(first), tree(room-first+1)); !isZero(got) {
				t.Error(name, first, "too much by one", shown(got))
			}
		}
	}
}

func TestAgreeFromBothSides(t *testing.T) {
	for _, x := range goodTerms() {
		for _, y := range goodTerms() {
			a, doneA := impl.Agree(x, pub(y))
			b, doneB := impl.Agree(y, pub(x))
			if doneA != doneB || order(a, b) != 0 || doneA != impl.TermOk(a) {
				t.Error(shown(x), shown(y), shown(a), shown(b))
			}
		}
	}
}

func TestAgreeWithoutAPub(t *testing.T) {
	a, b := atom(3), atom(5)
	none := terms{a, text("x"), pair(a, b), share(a, b), hash(b), seal(a, b), sign(a, b), hash(pub(b)), {}, {Op: -1}, {Op: 9, Kids: terms{b}}, term(impl.TmPub), term(impl.TmPub, a, b), term(impl.TmPub, a, b, b)}
	for op := impl.TmAtom; op <= impl.TmSign; op++ {
		if op != impl.TmPub {
			none = append(none, term(op, b))
		}
	}
	for i, x := range none {
		if got, done := impl.Agree(a, x); done || !isZero(got) {
			t.Error(i, shown(got), done)
		}
	}
}

func TestAgreeWhereThereIsNoEnd(t *testing.T) {
	x, doubled := ring(), atom(1)
	for range 100 {
		doubled = pair(doubled, doubled)
	}
	for _, endless := range []impl.Term{x, doubled, pub(x)} {
		if got, done := impl.Agree(endless, pub(endless)); done || !isZero(got) {
			t.Error(got.Op, done)
		}
	}
}

func TestTermsMadeAreNewMemory(t *testing.T) {
	was := pair(hash(atom(1)), share(atom(1), pub(atom(2))))
	builds := map[string]func(a, b impl.Term) impl.Term{}
	for name, made := range termsOfOne() {
		builds[name] = func(a, b impl.Term) impl.Term { return made.build(a) }
	}
	for name, made := range termsOfTwo() {
		builds[name] = made.build
	}
	for name, build := range builds {
		a, b := roomy(was), roomy(was)
		spoil(build(a, b))
		if !untouched(a, was) || !untouched(b, was) {
			t.Error(name, "writes into its arguments, or shares memory with them")
		}
		if !apart(build(a, a), build(a, a)) {
			t.Error(name, "has answers that share memory")
		}
		if kids := build(a, a).Kids; len(kids) == 2 && !apart(kids[0], kids[1]) {
			t.Error(name, "has lists that share memory")
		}
		build(impl.Term{Op: 9, Kids: a.Kids}, b)
		if !untouched(a, was) || !untouched(b, was) {
			t.Error(name, "writes into its arguments where they are wrong")
		}
	}
}

func TestAgreeLeavesItsPubAlone(t *testing.T) {
	secret, other := hash(atom(7)), pub(pair(atom(3), hash(atom(5))))
	for _, x := range []impl.Term{other, term(impl.TmPub, other, secret), hash(other)} {
		a, b := roomy(secret), roomy(x)
		got, _ := impl.Agree(a, b)
		spoil(got)
		if !untouched(a, secret) || !untouched(b, x) {
			t.Error("written into, or shared:", shown(x))
		}
	}
}

// apart tells whether b stays as it is where all lists within a are overwritten.
func apart(a, b impl.Term) bool {
	was := impl.TermText(b)
	spoil(a)
	return impl.TermText(b) == was
}

// spoil overwrites all lists of kids within t, with the spare room behind them.
func spoil(t impl.Term) {
	for _, kid := range t.Kids {
		spoil(kid)
	}
	whole := t.Kids[:cap(t.Kids)]
	for i := range whole {
		whole[i] = impl.Term{Op: -9}
	}
}
