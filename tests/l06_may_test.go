package tests

import (
	"math"
	"slices"
	"strings"
	"sync"
	"testing"

	"loop.example/g00328/impl"
)

func TestHoldsByTable(t *testing.T) {
	for _, c := range []struct {
		mode, until, now int
		want             bool
	}{
		{impl.MdHold, 42, 42, true}, {impl.MdHold, 42, 41, true}, {impl.MdHold, 42, 43, false}, {impl.MdHold, 42, 0, true}, {impl.MdHold, 42, -1, true}, {impl.MdHold, 0, 0, true}, {impl.MdHold, 0, 1, false}, {impl.MdHold, 0, -1, true},
		{impl.MdHold, 100000, 100000, true}, {impl.MdHold, 100000, 100001, false}, {impl.MdHold, 100000, math.MaxInt, false}, {impl.MdHold, 0, math.MinInt, true}, {impl.MdHold, 0, math.MaxInt, false},
		{impl.MdTest, 42, 42, false}, {impl.MdTest, 42, 41, false}, {impl.MdTest, 42, 43, false}, {impl.MdTest, 42, math.MinInt, false},
		{impl.MdNone, 42, 42, false}, {impl.MdNone, 42, 41, false}, {impl.MdNone, 42, 43, false}, {impl.MdNone, 0, 0, false}, {impl.MdNone, 42, math.MinInt, false},
	} {
		p := impl.Policy{Domain: "a", Mode: c.mode, Mx: []string{"mx.a"}, Until: c.until}
		if got := impl.Holds(p, c.now); got != c.want {
			t.Errorf("mode %d until %d now %d: %v", c.mode, c.until, c.now, got)
		}
	}
}

// Holds asks for Mode and Until alone, whether the policy is PolicyOk or not.
func TestHoldsOfAll(t *testing.T) {
	holding := 0
	for _, p := range append(goodPolicies(), badPolicies()...) {
		for _, now := range append(oddNumbers(), p.Until) {
			want := p.Mode == impl.MdHold && now <= p.Until
			if got := impl.Holds(p, now); got != want {
				t.Errorf("%+v now %d: %v", p, now, got)
			}
			if want {
				holding++
			}
		}
	}
	for _, mode := range append(allModes(), badModes()...) {
		for _, until := range oddNumbers() {
			for _, now := range oddNumbers() {
				p := impl.Policy{Mode: mode, Until: until}
				if got := impl.Holds(p, now); got != (mode == 2 && now <= until) {
					t.Errorf("mode %d until %d now %d: %v", mode, until, now, got)
				}
			}
		}
	}
	if holding < 1000 {
		t.Error("the policies ask for too little:", holding)
	}
}

func TestMayByTable(t *testing.T) {
	hold := func(mx ...string) impl.Policy {
		return impl.Policy{Domain: "a", Mode: impl.MdHold, Mx: mx, Until: 42}
	}
	for _, c := range []struct {
		p    impl.Policy
		host string
		now  int
		want bool
	}{
		{hold("*.a", "mx.b"), "mx.b", 0, true}, {hold("*.a", "mx.b"), "mx.a", 42, true}, {hold("*.a", "mx.b"), "x.a", 42, true}, {hold("*.a", "mx.b"), "mx.c", 0, false}, {hold("*.a", "mx.b"), "mx.c", 42, false}, {hold("*.a", "mx.b"), "mx.c", 43, true}, {hold("*.a", "mx.b"), "x.mx.a", 42, false}, {hold("*.a", "mx.b"), "x.b", 42, false},
		{hold("mx.a"), "mx.a", 42, true}, {hold("mx.a"), "m2.a", 42, false}, {hold("mx.a"), "m2.a", 43, true}, {hold("mx.a"), "a", 42, false}, {hold("mx.a"), "", 42, false}, {hold("mx.a"), "", 43, true}, {hold("*.a"), "*.a", 42, false}, {hold("*.a"), "a", 42, false}, {hold("*.a"), "MX.a", 42, false}, {hold("*.a"), "MX.a", 43, true}, {hold("mx.a"), "mx.a ", 42, false},
		{hold(), "mx.a", 42, false}, {hold(), "mx.a", 43, true}, {hold(), "", 42, false}, {hold("*"), "mx.a", 42, false}, {hold(""), "", 42, false}, {hold("a"), "a", 42, false}, {hold("MX.a"), "MX.a", 42, false}, {hold("*", "mx.a"), "mx.a", 42, true},
		{hold("a.a", "b.b", "c.c", "d.d", "e.e"), "e.e", 42, true}, {hold("a.a", "b.b", "c.c", "d.d", "e.e"), "a.a", 42, true}, {hold("a.a", "b.b", "c.c", "d.d", "e.e"), "f.f", 42, false}, {hold("a.a", "b.b", "c.c", "d.d", "e.e", "f.f"), "f.f", 42, true},
		{hold("mx.a"), "mx.b", math.MinInt, false}, {hold("mx.a"), "mx.b", math.MaxInt, true}, {hold("mx.a"), "mx.a", math.MinInt, true}, {hold("mx.a"), "mx.a", math.MaxInt, true},
		{impl.Policy{Domain: "a", Mode: impl.MdTest, Mx: []string{"mx.a"}, Until: 42}, "mx.b", 0, true}, {impl.Policy{Domain: "a", Mode: impl.MdNone, Mx: []string{"mx.a"}, Until: 42}, "mx.b", 0, true}, {impl.Policy{Domain: "a", Mode: impl.MdTest, Mx: []string{"mx.a"}, Until: 42}, "no host", 0, true},
		{impl.Policy{}, "mx.a", 0, true}, {impl.Policy{}, "", 0, true}, {impl.Policy{Mode: impl.MdHold}, "mx.a", 0, false}, {impl.Policy{Mode: impl.MdHold}, "mx.a", 1, true}, {impl.Policy{Mode: 3, Until: 42}, "mx.a", 0, true}, {impl.Policy{Mode: -1, Until: 42}, "mx.a", 0, true},
	} {
		if got := impl.May(c.p, c.host, c.now); got != c.want {
			t.Errorf("%+v %q now %d: %v", c.p, c.host, c.now, got)
		}
	}
}

// Where a policy holds no host may that no pattern fits.
func TestMayByEachPattern(t *testing.T) {
	hosts := append(goodHosts(), badHosts()...)
	may := 0
	for _, pattern := range append(goodPatterns(), badPatterns()...) {
		for _, host := range append(hosts, pattern) {
			fits := fitsByWord(pattern, host)
			if fits {
				may++
			}
			for at := range 3 {
				p := impl.Policy{Domain: "a", Mode: impl.MdHold, Mx: with([]string{"no.such", "*.no.such", "no.such"}, at, pattern), Until: 50}
				if got := impl.May(p, host, 50); got != fits {
					t.Errorf("%q %q at %d: %v", pattern, host, at, got)
				}
				if !impl.May(p, host, 51) {
					t.Errorf("%q %q behind its end", pattern, host)
				}
			}
		}
	}
	if may < len(goodHosts()) {
		t.Error("the texts ask for too little:", may)
	}
}

func TestMayByWord(t *testing.T) {
	d, may, mayNot := dice(68), 0, 0
	for range 60000 {
		p, host := d.policy(), oneOf(&d, "mx.a", "mx.b", "m2.a", "x.mx.a", "a.a", "x.b", "0.0", "mx", "", "*.a", "mx.a\n")
		now := oneOf(&d, p.Until, p.Until-1, p.Until+1, 0, -1, 50, 51, math.MinInt, math.MaxInt)
		holds := p.Mode == 2 && p.Until >= now
		want := !holds || slices.ContainsFunc(p.Mx, func(pattern string) bool { return fitsByWord(pattern, host) })
		if got := impl.May(p, host, now); got != want || impl.Holds(p, now) != holds {
			t.Fatalf("%+v %q now %d: %v", p, host, now, got)
		}
		if !want {
			mayNot++
		} else if holds {
			may++
		}
	}
	if may < 1000 || mayNot < 1000 {
		t.Error("the policies ask for too little:", may, mayNot)
	}
}

// What is read of a text holds up to the end that it tells.
func TestWhatIsReadHolds(t *testing.T) {
	for _, mode := range allModes() {
		for age := range goodUntils() {
			for _, now := range oddNumbers() {
				s := impl.PolicyText(impl.Policy{Domain: "a", Mode: mode, Mx: []string{"*.a"}}, age)
				p, done := impl.PolicyOf("a", s, now)
				if !done || !impl.PolicyOk(p) {
					t.Fatalf("%q now %d: %+v", s, now, p)
				}
				end := endByWord(now, age)
				if impl.Holds(p, end) != (mode == impl.MdHold) || impl.Holds(p, end+1) {
					t.Errorf("%q now %d: %+v", s, now, p)
				}
				if !impl.May(p, "mx.a", end) || impl.May(p, "mx.b", end) != (mode != impl.MdHold) || !impl.May(p, "mx.b", end+1) {
					t.Errorf("%q now %d: %+v", s, now, p)
				}
			}
		}
	}
}

// roomyTexts is list with spare room behind it, something in all of it.
func roomyTexts(list []string) []string {
	whole := slices.Concat(list, slices.Repeat([]string{"spare"}, spareRoom))
	return whole[:len(list)]
}

func untouchedTexts(list, was []string) bool {
	return slices.Equal(list, was) && slices.Equal(list[len(list):cap(list)][:spareRoom], slices.Repeat([]string{"spare"}, spareRoom))
}

func TestPoliciesAreNotWrittenInto(t *testing.T) {
	for _, was := range append(goodPolicies(), badPolicies()...) {
		p := was
		p.Mx = roomyTexts(was.Mx)
		for _, number := range []int{-1, 0, 50, 51, math.MaxInt} {
			impl.PolicyOk(p)
			impl.PolicyText(p, number)
			impl.Holds(p, number)
			impl.May(p, "mx.a", number)
			impl.May(p, "", number)
		}
		if !samePolicy(p, was) || !untouchedTexts(p.Mx, was.Mx) {
			t.Errorf("written into: %+v", was)
		}
	}
}

func TestPoliciesAreNewMemory(t *testing.T) {
	for _, was := range goodPolicies() {
		domain, s := strings.Clone(was.Domain), impl.PolicyText(was, was.Until)
		one, _ := impl.PolicyOf(domain, s, 0)
		two, _ := impl.PolicyOf(domain, s, 0)
		overwrite(one.Mx)
		if !samePolicy(two, was) {
			t.Errorf("two answers share memory: %+v", was)
		}
		if three, _ := impl.PolicyOf(domain, s, 0); !samePolicy(three, was) {
			t.Errorf("what is done with an answer is seen in the next one: %+v", was)
		}
		if liesWithin(two.Domain, domain) || liesWithin(two.Domain, s) {
			t.Errorf("the domain shares memory with an argument: %+v", was)
		}
		for _, pattern := range two.Mx {
			if liesWithin(pattern, s) {
				t.Errorf("a pattern shares memory with the text: %+v", was)
			}
		}
		for _, pattern := range was.Mx {
			if liesWithin(s, pattern) {
				t.Errorf("the text shares memory with a pattern: %+v", was)
			}
		}
	}
}

// answersOf are all answers of chapter 6 at a policy and a text.
func answersOf(p impl.Policy, s string) []any {
	told := impl.PolicyText(p, p.Until)
	read, done := impl.PolicyOf(p.Domain, s, p.Until)
	list := []any{impl.PolicyOk(p), told, read.Domain, read.Mode, strings.Join(read.Mx, "\n"), len(read.Mx), read.Until, done, impl.Holds(p, 50), impl.May(p, "mx.a", 50)}
	overwrite(read.Mx)
	return list
}

// What is asked first, and what was asked before, is nothing to an answer.
func TestPoliciesAnswerAgain(t *testing.T) {
	policies := append(goodPolicies(), badPolicies()...)
	texts := []string{"", "version: v1\nmode: none\nage: 0\n", "version: v1\nmode: held\nage: 0\n", "version: v1\nmode: hold\nmx: mx.a\nage: 30\n"}
	for _, p := range goodPolicies() {
		texts = append(texts, impl.PolicyText(p, 30))
	}
	var first [][]any
	for i, p := range policies {
		first = append(first, answersOf(p, texts[i%len(texts)]))
	}
	for i, p := range slices.Backward(policies) {
		if again := answersOf(p, texts[i%len(texts)]); !slices.Equal(again, first[i]) {
			t.Errorf("%+v %q %q", p, first[i], again)
		}
	}
}

// Many ask at the same time, each of all modes.
func TestPoliciesOfMany(t *testing.T) {
	var all sync.WaitGroup
	wrong := make([]bool, 50)
	for i := range wrong {
		all.Go(func() {
			for _, mode := range allModes() {
				p := impl.Policy{Domain: "a", Mode: mode, Mx: []string{"mx.a"}, Until: i}
				got, done := impl.PolicyOf("a", impl.PolicyText(p, i), 0)
				wrong[i] = wrong[i] || !done || !samePolicy(got, p)
			}
		})
	}
	all.Wait()
	if slices.Contains(wrong, true) {
		t.Error("another answer, asked by many")
	}
}
