package tests

import (
	"slices"
	"strings"
	"testing"

	"loop.example/g00328/impl"
)

// inOrder are so many domains, ascending; some are the beginning of others.
func inOrder(count int) []string {
	all := []string{"a", "aa", "aaa", "ab", "b", "ba", "bz", "m", "mx", "mxa", "y", "z", "za", "zzzzzzzzzz"}
	return all[:count:count]
}

// cacheOf is a policy of each of these domains, no two alike in all else.
func cacheOf(domains ...string) []impl.Policy {
	var list []impl.Policy
	for i, domain := range domains {
		list = append(list, impl.Policy{Domain: domain, Mode: i % 3, Mx: someMx(1 + i%impl.MaxMx), Until: 20 + 10*i})
	}
	return list
}

// someCache is so many that are remembered, CacheOk up to MaxCache.
func someCache(count int) []impl.Policy { return cacheOf(inOrder(count)...) }

func samePolicies(a, b []impl.Policy) bool { return slices.EqualFunc(a, b, samePolicy) }

// withPolicy is a copy of list with p at that place.
func withPolicy(list []impl.Policy, at int, p impl.Policy) []impl.Policy {
	list = slices.Clone(list)
	list[at] = p
	return list
}

func domainsOf(list []impl.Policy) []string {
	var domains []string
	for _, p := range list {
		domains = append(domains, p.Domain)
	}
	return domains
}

func ascendingByWord(domains []string) bool {
	sorted := slices.Compact(slices.Sorted(slices.Values(domains)))
	return slices.Equal(sorted, domains)
}

// cacheByWord is what the document says of CacheOk, told apart from the program.
func cacheByWord(list []impl.Policy) bool {
	bad := slices.ContainsFunc(list, func(p impl.Policy) bool { return !policyByWord(p) })
	return len(list) <= 10 && !bad && ascendingByWord(domainsOf(list))
}

// badAt are lists that are CacheOk but for one policy at one place.
func badAt(count, at int) [][]impl.Policy {
	var lists [][]impl.Policy
	for _, p := range badPolicies() {
		// The domain is kept as it is only where it is the fault.
		if domainByWord(p.Domain) {
			p.Domain = inOrder(count)[at]
		}
		lists = append(lists, withPolicy(someCache(count), at, p))
	}
	return lists
}

// outOfOrder are lists of policies that are PolicyOk, their domains not
// ascending or not each once.
func outOfOrder() [][]impl.Policy {
	lists := [][]impl.Policy{cacheOf("b", "a"), cacheOf("aa", "a"), cacheOf("ab", "aa"), cacheOf("b", "ab"), cacheOf("a", "a"), cacheOf("a", "b", "a"), cacheOf("b", "a", "c"), cacheOf("a", "c", "b"), cacheOf("a", "b", "b"), cacheOf("a", "a", "b"), cacheOf("c", "b", "a")}
	for count := 2; count <= impl.MaxCache; count++ {
		for i := range count {
			for j := range i {
				domains := inOrder(count)
				lists = append(lists, cacheOf(with(domains, i, domains[j])...), cacheOf(with(domains, j, domains[i])...))
				lists = append(lists, cacheOf(with(with(domains, i, domains[j]), j, domains[i])...))
			}
		}
		domains := inOrder(count)
		slices.Reverse(domains)
		lists = append(lists, cacheOf(domains...))
	}
	return lists
}

func TestCacheConstants(t *testing.T) {
	if impl.MaxCache != 10 {
		t.Error(impl.MaxCache)
	}
}

func TestCacheOkByCount(t *testing.T) {
	if !impl.CacheOk(nil) || !impl.CacheOk([]impl.Policy{}) {
		t.Error("none")
	}
	for count := range 15 {
		if got := impl.CacheOk(someCache(count)); got != (count <= 10) {
			t.Error(count, "policies", got)
		}
	}
	var many []string
	for a := 'a'; a <= 'z'; a++ {
		for b := 'a'; b <= 'z'; b++ {
			many = append(many, string(a)+string(b))
		}
	}
	if impl.CacheOk(cacheOf(many...)) || !impl.CacheOk(cacheOf(many[600:610]...)) || impl.CacheOk(cacheOf(many[600:611]...)) {
		t.Error("of many")
	}
}

func TestCacheOkOfOne(t *testing.T) {
	for _, p := range goodPolicies() {
		if !impl.CacheOk([]impl.Policy{p}) {
			t.Errorf("not ok: %+v", p)
		}
	}
	for _, p := range badPolicies() {
		if impl.CacheOk([]impl.Policy{p}) {
			t.Errorf("ok: %+v", p)
		}
	}
}

func TestCacheOkWithABadOneAtEachPlace(t *testing.T) {
	for count := 1; count <= impl.MaxCache; count++ {
		for at := range count {
			for _, list := range badAt(count, at) {
				if impl.CacheOk(list) {
					t.Errorf("ok with %+v at %d of %d", list[at], at, count)
				}
			}
		}
	}
	// In order all the same.
	for _, domains := range [][]string{{"", "a"}, {"A", "a"}, {"0", "a"}, {"a", "b1", "c"}, {"a", "b", "b."}, {"a", tenBytes + "k", "b"}, {"a", "z", "é"}, {"a", "z", "{"}, {"a", "zzzzzzzzzz", "zzzzzzzzzzz"}} {
		if impl.CacheOk(cacheOf(domains...)) {
			t.Errorf("ok: %q", domains)
		}
	}
}

func TestCacheOkByOrder(t *testing.T) {
	for _, list := range outOfOrder() {
		if impl.CacheOk(list) {
			t.Errorf("ok: %q", domainsOf(list))
		}
	}
	for _, domains := range [][]string{{"a", "b"}, {"a", "aa"}, {"aa", "ab"}, {"ab", "b"}, {"a", "aa", "aaa", "ab", "b"}, {"aaaaaaaaa", "aaaaaaaaaa"}, {"aaaaaaaaaa", "aaaaaaaaab"}, {"abcdefghi", tenBytes, "b"}, {"y", "z", "zz"}, {"a", "z"}} {
		if !impl.CacheOk(cacheOf(domains...)) {
			t.Errorf("not ok: %q", domains)
		}
		slices.Reverse(domains)
		if impl.CacheOk(cacheOf(domains...)) {
			t.Errorf("ok: %q", domains)
		}
	}
}

// Nothing but the domain has an order, and nothing else is to be there once.
func TestCacheOkByDomainsAlone(t *testing.T) {
	for _, first := range goodPolicies() {
		for _, second := range goodPolicies()[:20] {
			first.Domain, second.Domain = "m", "n"
			if !impl.CacheOk([]impl.Policy{first, second}) || impl.CacheOk([]impl.Policy{second, first}) {
				t.Errorf("%+v %+v", first, second)
			}
			second.Domain = "m"
			if impl.CacheOk([]impl.Policy{first, second}) {
				t.Errorf("twice: %+v %+v", first, second)
			}
		}
	}
}

// cache is mostly CacheOk.
func (d *dice) cache() []impl.Policy {
	var list []impl.Policy
	for _, domain := range inOrder(14) {
		if len(list) < 10+d.below(3)/2 && d.below(3) > 0 {
			list = append(list, d.remembered(domain))
		}
	}
	list = list[:d.below(len(list)+1)]
	if len(list) > 1 && d.below(6) == 0 {
		i, j := d.below(len(list)), d.below(len(list))
		list[i].Domain = list[j].Domain
	}
	if len(list) > 1 && d.below(6) == 0 {
		i, j := d.below(len(list)), d.below(len(list))
		list[i], list[j] = list[j], list[i]
	}
	return list
}

// remembered is a policy of that domain, nearly always PolicyOk.
func (d *dice) remembered(domain string) impl.Policy {
	p := impl.Policy{Domain: domain, Mode: d.below(3), Mx: someMx(1 + d.below(impl.MaxMx)), Until: oneOf(d, 0, 1, 49, 50, 51, 99999, 100000)}
	switch d.below(60) {
	case 0:
		p.Mode = oneOf(d, -1, 3)
	case 1:
		p.Mx = oneOf(d, []string{"*"}, someMx(impl.MaxMx+1))
	case 2:
		p.Until = oneOf(d, -1, impl.MaxTime+1)
	case 3:
		p.Domain = oneOf(d, "", "a1", strings.ToUpper(domain))
	}
	return p
}

func TestCacheOkByWord(t *testing.T) {
	d, good := dice(71), 0
	for range 30000 {
		list := d.cache()
		want := cacheByWord(list)
		if got := impl.CacheOk(list); got != want {
			t.Fatalf("%+v %v", list, got)
		}
		if want {
			good++
		}
	}
	if good < 5000 || good > 25000 {
		t.Error("the lists ask for too little:", good)
	}
}
