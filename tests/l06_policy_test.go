package tests

import (
	"math"
	"slices"
	"strings"
	"testing"

	"loop.example/g00328/impl"
)

func goodDomains() []string {
	return []string{"a", "z", "m", "b", "az", "za", "mx", "abc", "zzzzzzzzz", "abcdefghi", tenBytes, "zzzzzzzzzz", "qrstuvwxyz"}
}

func badDomains() []string {
	return []string{
		"", tenBytes + "k", "zzzzzzzzzzz", strings.Repeat("a", 12), strings.Repeat("a", 60), strings.Repeat("a", 10000),
		"A", "Z", "M", "aB", "Ab", "aBc", "abC", "0", "9", "1", "a1", "1a", "a0b", "`", "{", "a`", "`a", "a{", "{a", "a{b", "@", "[", "a@", "a[",
		"-", "a-b", "-a", "a-", ".", "a.b", "mx.a", "a.", ".a", "*", "*.a", "_", " ", " a", "a ", "a b", "\n", "a\n", "\na", "a\nb", "\r", "a\r", "\t", "\x00", "a\x00", "\x00a",
		"é", "aé", "éa", "aéb", "ééééé", "日", "日本", "\u017f", "\u212a", "\uff41", "\u0430", "a\u0301", "\ufeffa", "\ufffd", "\U0001d41a", "\xff", "a\xff", "\x80", "\xe1", "a\xc3",
	}
}

// someMx are so many patterns that are PatternOk, stars and hosts among them.
func someMx(count int) []string {
	all := []string{"*.a", "mx.b", "*.mx.a", "m2.a", sixtyBytes, "*." + sixtyBytes, "*." + tenBytes, "0.9-9.z"}
	return all[:count:count]
}

func allModes() []int { return []int{impl.MdNone, impl.MdTest, impl.MdHold} }

func badModes() []int {
	return []int{-1, 3, 4, -2, -3, 10, 255, 256, 257, 258, 1 << 32, 1<<32 + 1, 1<<32 + 2, -1 << 32, math.MinInt, math.MinInt + 2, math.MaxInt, math.MaxInt - 1}
}

// leastMx is how many patterns a policy of that mode has at least.
func leastMx(mode int) int {
	if mode == impl.MdNone {
		return 0
	}
	return 1
}

// goodPolicies are PolicyOk, no two the same.
func goodPolicies() []impl.Policy {
	var list []impl.Policy
	for _, mode := range allModes() {
		for count := leastMx(mode); count <= impl.MaxMx; count++ {
			for _, domain := range goodDomains() {
				list = append(list, impl.Policy{Domain: domain, Mode: mode, Mx: someMx(count), Until: 50})
			}
			for until := range goodUntils() {
				if until != 50 {
					list = append(list, impl.Policy{Domain: "a", Mode: mode, Mx: someMx(count), Until: until})
				}
			}
		}
		for _, pattern := range goodPatterns() {
			list = append(list, impl.Policy{Domain: "b", Mode: mode, Mx: []string{pattern}, Until: 7}, impl.Policy{Domain: "b", Mode: mode, Mx: []string{pattern, "mx.a", pattern}, Until: 7})
		}
	}
	return list
}

// badPolicies are not PolicyOk, by each of their fields alone and by all of them.
func badPolicies() []impl.Policy {
	list := []impl.Policy{{}, {Mode: -1, Until: -1, Mx: []string{""}}, {Domain: "A", Mode: 3, Mx: someMx(6), Until: impl.MaxTime + 1}}
	for _, mode := range allModes() {
		for _, domain := range badDomains() {
			list = append(list, impl.Policy{Domain: domain, Mode: mode, Mx: someMx(2), Until: 50})
		}
		for _, until := range badUntils() {
			list = append(list, impl.Policy{Domain: "a", Mode: mode, Mx: someMx(2), Until: until})
		}
		for _, pattern := range badPatterns() {
			list = append(list, impl.Policy{Domain: "a", Mode: mode, Mx: []string{pattern}, Until: 50})
		}
		for count := 1; count <= impl.MaxMx; count++ {
			for at := range count {
				list = append(list, impl.Policy{Domain: "a", Mode: mode, Mx: with(someMx(count), at, "*"), Until: 50})
			}
		}
		list = append(list, impl.Policy{Domain: "a", Mode: mode, Mx: someMx(impl.MaxMx + 1), Until: 50}, impl.Policy{Domain: "a", Mode: mode, Mx: someMx(8), Until: 50})
		list = append(list, impl.Policy{Domain: "a", Mode: mode, Mx: slices.Repeat([]string{"mx.a"}, 1000), Until: 50})
	}
	for _, mode := range badModes() {
		for count := range impl.MaxMx + 1 {
			list = append(list, impl.Policy{Domain: "a", Mode: mode, Mx: someMx(count), Until: 50})
		}
	}
	for _, mode := range []int{impl.MdTest, impl.MdHold} {
		list = append(list, impl.Policy{Domain: "a", Mode: mode, Until: 50}, impl.Policy{Domain: "a", Mode: mode, Mx: []string{}, Until: 50})
	}
	return list
}

// with is a copy of list with s at that place.
func with(list []string, at int, s string) []string {
	list = slices.Clone(list)
	list[at] = s
	return list
}

func samePolicy(a, b impl.Policy) bool {
	return a.Domain == b.Domain && a.Mode == b.Mode && a.Until == b.Until && slices.Equal(a.Mx, b.Mx)
}

func domainByWord(s string) bool {
	return s != "" && len(s) <= 10 && strings.Trim(s, "abcdefghijklmnopqrstuvwxyz") == ""
}

// policyByWord is what the document says of PolicyOk, told apart from the program.
func policyByWord(p impl.Policy) bool {
	for _, pattern := range p.Mx {
		if !patternByWord(pattern) {
			return false
		}
	}
	return domainByWord(p.Domain) && slices.Contains([]int{0, 1, 2}, p.Mode) && len(p.Mx) <= 5 && (p.Mode == 0 || len(p.Mx) >= 1) && 0 <= p.Until && p.Until <= 100000
}

func TestPolicyOkOfGoodAndBad(t *testing.T) {
	for _, p := range goodPolicies() {
		if !impl.PolicyOk(p) {
			t.Errorf("not ok: %+v", p)
		}
	}
	for _, p := range badPolicies() {
		if impl.PolicyOk(p) {
			t.Errorf("ok: %+v", p)
		}
	}
}

func TestPolicyOkByDomain(t *testing.T) {
	for _, mode := range allModes() {
		for n := range 30 {
			p := impl.Policy{Domain: strings.Repeat("x", n), Mode: mode, Mx: someMx(1)}
			if got := impl.PolicyOk(p); got != (n >= 1 && n <= 10) {
				t.Error("a domain of", n, "bytes", got)
			}
		}
		for n := range 256 {
			b := string([]byte{byte(n)})
			for _, domain := range []string{b, b + "a", "a" + b, "a" + b + "z", b + "bcdefghij", "abcde" + b + "ghij", "abcdefghi" + b} {
				p := impl.Policy{Domain: domain, Mode: mode, Mx: someMx(1)}
				if got := impl.PolicyOk(p); got != (n >= 'a' && n <= 'z') {
					t.Errorf("%q %v", domain, got)
				}
			}
		}
	}
}

func TestPolicyOkByModeAndMx(t *testing.T) {
	for mode := -3; mode <= 6; mode++ {
		for count := range 9 {
			want := mode == impl.MdNone && count <= 5 || (mode == impl.MdTest || mode == impl.MdHold) && count >= 1 && count <= 5
			p := impl.Policy{Domain: "a", Mode: mode, Mx: someMx(count), Until: 50}
			if got := impl.PolicyOk(p); got != want {
				t.Error("mode", mode, "patterns", count, got)
			}
			p.Mx = slices.Repeat([]string{"mx.a"}, count)
			if got := impl.PolicyOk(p); got != want {
				t.Error("mode", mode, "the same pattern so many times", count, got)
			}
		}
	}
	for _, mode := range badModes() {
		if impl.PolicyOk(impl.Policy{Domain: "a", Mode: mode, Mx: someMx(1), Until: 50}) {
			t.Error("mode", mode)
		}
	}
}

func TestPolicyOkByEachPattern(t *testing.T) {
	for _, mode := range allModes() {
		for count := 1; count <= impl.MaxMx+1; count++ {
			for at := range count {
				for _, pattern := range append(goodPatterns(), badPatterns()...) {
					p := impl.Policy{Domain: "a", Mode: mode, Mx: with(someMx(count), at, pattern), Until: 50}
					if got := impl.PolicyOk(p); got != (count <= impl.MaxMx && patternByWord(pattern)) {
						t.Errorf("%q at %d of %d: %v", pattern, at, count, got)
					}
				}
			}
		}
	}
}

func TestPolicyOkByUntil(t *testing.T) {
	for _, mode := range allModes() {
		for until := range goodUntils() {
			if !impl.PolicyOk(impl.Policy{Domain: "a", Mode: mode, Mx: someMx(1), Until: until}) {
				t.Error("until", until)
			}
		}
		for _, until := range badUntils() {
			if impl.PolicyOk(impl.Policy{Domain: "a", Mode: mode, Mx: someMx(1), Until: until}) {
				t.Error("until", until)
			}
		}
	}
}

// oneOf is one of few, most of them right.
func oneOf[T any](d *dice, list ...T) T { return list[d.below(len(list))] }

func (d *dice) policy() impl.Policy {
	var mx []string
	for range oneOf(d, 0, 1, 1, 1, 2, 3, 4, 5, 5, 6) {
		mx = append(mx, oneOf(d, "*.a", "mx.a", "mx.b", "*.mx.a", "m2.a", "x.mx.a", "a.a", "*.b", "0.0", "*", "mx"))
	}
	return impl.Policy{Domain: oneOf(d, "a", "b", "mx", tenBytes, "z", "a1", "", tenBytes+"k"), Mode: oneOf(d, 0, 1, 2, 2, 2, 3, -1), Mx: mx, Until: oneOf(d, 0, 1, 50, 99999, 100000, 100001, -1)}
}

func TestPolicyOkByWord(t *testing.T) {
	d, good := dice(61), 0
	for range 50000 {
		p := d.policy()
		want := policyByWord(p)
		if got := impl.PolicyOk(p); got != want {
			t.Fatalf("%+v %v", p, got)
		}
		if want {
			good++
		}
	}
	if good < 2000 || good > 40000 {
		t.Error("the policies ask for too little:", good)
	}
}
