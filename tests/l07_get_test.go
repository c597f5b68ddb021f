package tests

import (
	"math"
	"slices"
	"testing"

	"loop.example/g00328/impl"
)

// isGot holds CacheGet against what is to be got.
func isGot(t *testing.T, list []impl.Policy, domain string, now int, want impl.Policy) {
	t.Helper()
	if got, done := impl.CacheGet(list, domain, now); !done || !samePolicy(got, want) {
		t.Errorf("%q now %d of %+v: %+v %v", domain, now, list, got, done)
	}
}

func isNotGot(t *testing.T, list []impl.Policy, domain string, now int) {
	t.Helper()
	if got, done := impl.CacheGet(list, domain, now); done || !isNone(got) {
		t.Errorf("%q now %d of %+v: %+v %v", domain, now, list, got, done)
	}
}

// timesUpTo are times that are not behind that end; timesBehind are behind it.
func timesUpTo(end int) []int {
	return slices.DeleteFunc(append(oddNumbers(), end, end-1), func(n int) bool { return n > end })
}

func timesBehind(end int) []int {
	return slices.DeleteFunc(append(oddNumbers(), end+1), func(n int) bool { return n <= end })
}

func TestCacheGetUpToItsEnd(t *testing.T) {
	for until := range goodUntils() {
		p := impl.Policy{Domain: "m", Mode: impl.MdHold, Mx: []string{"*.a", "mx.b"}, Until: until}
		list := []impl.Policy{{Domain: "a", Until: impl.MaxTime}, p, {Domain: "z", Until: impl.MaxTime}}
		for _, now := range timesUpTo(until) {
			isGot(t, list, "m", now, p)
		}
		for _, now := range timesBehind(until) {
			isNotGot(t, list, "m", now)
		}
		isGot(t, list, "m", math.MinInt, p)
		isGot(t, list, "m", -1, p)
		isGot(t, list, "m", until, p)
		isNotGot(t, list, "m", until+1)
		isNotGot(t, list, "m", impl.MaxTime+1)
		isNotGot(t, list, "m", math.MaxInt)
	}
}

func TestCacheGetOfEachDomain(t *testing.T) {
	for count := range impl.MaxCache + 1 {
		list := someCache(count)
		for _, p := range list {
			isGot(t, list, p.Domain, 0, p)
			isGot(t, list, p.Domain, p.Until, p)
			isNotGot(t, list, p.Domain, p.Until+1)
		}
		for _, domain := range append(inOrder(14)[count:], badDomains()...) {
			isNotGot(t, list, domain, 0)
			isNotGot(t, list, domain, math.MinInt)
		}
	}
	list := cacheOf("aa", "mx", "mxab")
	for _, domain := range []string{"", "a", "aaa", "ab", "m", "mxa", "mxb", "mxabc", "AA", "aa ", " aa", "aa\n", "aa\x00", "mx.a"} {
		isNotGot(t, list, domain, 0)
	}
}

func TestCacheGetOfNone(t *testing.T) {
	for _, domain := range []string{"", "a", "mx"} {
		for _, now := range oddNumbers() {
			isNotGot(t, nil, domain, now)
			isNotGot(t, []impl.Policy{}, domain, now)
		}
	}
}

// It tells no more of a list than of that domain: what stands beside it, and in
// which order, is nothing to it.
func TestCacheGetOfWhatIsNotOk(t *testing.T) {
	list := cacheOf("m", "b", "z", "a", "")
	for _, p := range list {
		isGot(t, list, p.Domain, p.Until, p)
		isNotGot(t, list, p.Domain, p.Until+1)
	}
	for _, p := range badPolicies() {
		list := []impl.Policy{{Domain: "ahead", Until: 5}, p, {Domain: "behind", Until: 5}}
		isGot(t, list, p.Domain, p.Until, p)
		isGot(t, list, p.Domain, math.MinInt, p)
		isGot(t, list, "behind", 5, list[2])
		if p.Until < math.MaxInt {
			isNotGot(t, list, p.Domain, p.Until+1)
		}
	}
	many := slices.Repeat(cacheOf("a", "b"), 1000)
	many = append(many, impl.Policy{Domain: "c", Until: 5})
	isGot(t, many, "c", 5, many[2000])
	isGot(t, many, "b", 5, many[1])
}

// Of a domain that is there twice, it is the first one that is not over.
func TestCacheGetOfADomainTwice(t *testing.T) {
	long, short := impl.Policy{Domain: "a", Mx: []string{"mx.a"}, Until: 9}, impl.Policy{Domain: "a", Until: 5}
	for _, between := range [][]impl.Policy{nil, cacheOf("b"), cacheOf("c", "b")} {
		list := slices.Concat([]impl.Policy{short}, between, []impl.Policy{long})
		isGot(t, list, "a", 5, short)
		isGot(t, list, "a", 6, long)
		isGot(t, list, "a", 9, long)
		isNotGot(t, list, "a", 10)
		slices.Reverse(list)
		isGot(t, list, "a", 5, long)
		isGot(t, list, "a", 9, long)
		isNotGot(t, list, "a", 10)
	}
}

// lastingByWord is what the document says of CacheDrop, told apart from the program.
func lastingByWord(list []impl.Policy, now int) []impl.Policy {
	return slices.DeleteFunc(slices.Clone(list), func(p impl.Policy) bool { return p.Until < now })
}

func TestCacheDropByTable(t *testing.T) {
	list := []impl.Policy{{Domain: "a", Until: 5}, {Domain: "b", Until: 9}, {Domain: "c"}, {Domain: "d", Until: 7}, {Domain: "e", Until: impl.MaxTime}, {Domain: "f", Until: 5}}
	for _, c := range []struct {
		now  int
		want []int
	}{
		{math.MinInt, []int{0, 1, 2, 3, 4, 5}}, {-1, []int{0, 1, 2, 3, 4, 5}}, {0, []int{0, 1, 2, 3, 4, 5}}, {1, []int{0, 1, 3, 4, 5}}, {5, []int{0, 1, 3, 4, 5}}, {6, []int{1, 3, 4}}, {7, []int{1, 3, 4}}, {8, []int{1, 4}}, {9, []int{1, 4}},
		{10, []int{4}}, {impl.MaxTime - 1, []int{4}}, {impl.MaxTime, []int{4}}, {impl.MaxTime + 1, nil}, {math.MaxInt, nil},
	} {
		var want []impl.Policy
		for _, at := range c.want {
			want = append(want, list[at])
		}
		if got := impl.CacheDrop(list, c.now); !samePolicies(got, want) || !impl.CacheOk(got) {
			t.Errorf("now %d: %+v", c.now, got)
		}
	}
}

func TestCacheDropOfOne(t *testing.T) {
	for _, p := range append(goodPolicies(), badPolicies()...) {
		for _, now := range append(oddNumbers(), p.Until, p.Until-1, p.Until+1) {
			want := []impl.Policy{p}
			if p.Until < now {
				want = nil
			}
			if got := impl.CacheDrop([]impl.Policy{p}, now); !samePolicies(got, want) {
				t.Errorf("now %d of %+v: %+v", now, p, got)
			}
		}
	}
}

func TestCacheDropOfAll(t *testing.T) {
	lists := append(outOfOrder(), nil, []impl.Policy{}, slices.Repeat(someCache(5), 1000))
	for count := range 15 {
		lists = append(lists, someCache(count))
	}
	for _, list := range lists {
		for _, now := range []int{math.MinInt, -1, 0, 20, 21, 30, 31, 59, 60, 61, 110, 111, 1000, impl.MaxTime, math.MaxInt} {
			if got := impl.CacheDrop(list, now); !samePolicies(got, lastingByWord(list, now)) {
				t.Errorf("now %d of %+v: %+v", now, list, got)
			}
		}
	}
	for at := range 3 {
		for _, list := range badAt(3, at) {
			for _, now := range []int{math.MinInt, 0, 30, 40, 41, math.MaxInt} {
				if got := impl.CacheDrop(list, now); !samePolicies(got, lastingByWord(list, now)) {
					t.Errorf("now %d of %+v: %+v", now, list, got)
				}
			}
		}
	}
}

func TestCacheGetAndDropByWord(t *testing.T) {
	d, got, dropped := dice(73), 0, 0
	for range 30000 {
		list, now := d.cache(), oneOf(&d, 0, 1, 2, 49, 50, 51, 52, -1, 99999, 100000, 100001, math.MinInt, math.MaxInt)
		lasting := lastingByWord(list, now)
		if kept := impl.CacheDrop(list, now); !samePolicies(kept, lasting) {
			t.Fatalf("now %d of %+v: %+v", now, list, kept)
		}
		dropped += len(list) - len(lasting)
		domain := oneOf(&d, append(inOrder(14), "", "a1")...)
		if at := slices.IndexFunc(lasting, func(p impl.Policy) bool { return p.Domain == domain }); at >= 0 {
			isGot(t, list, domain, now, lasting[at])
			got++
		} else {
			isNotGot(t, list, domain, now)
		}
	}
	if got < 1000 || dropped < 10000 {
		t.Error("the lists ask for too little:", got, dropped)
	}
}

// What is put is got, up to its end, with all that it has; the others are as they were.
func TestWhatIsPutIsGot(t *testing.T) {
	for count := range impl.MaxCache {
		list := someCache(count)
		for _, domain := range []string{"a", "ab", "c", "mx", "x", "zzzzzzzzzz"} {
			for _, p := range goodPolicies() {
				p.Domain = domain
				made, done := impl.CachePut(list, p)
				if !done {
					t.Fatalf("%+v into %+v", p, list)
				}
				isGot(t, made, domain, math.MinInt, p)
				isGot(t, made, domain, p.Until, p)
				isNotGot(t, made, domain, p.Until+1)
				for _, other := range list {
					if other.Domain != domain {
						isGot(t, made, other.Domain, other.Until, other)
						isNotGot(t, made, other.Domain, other.Until+1)
					}
				}
			}
		}
	}
}

// Put in any order, all are got, and what is put later counts.
func TestWhatIsPutOneByOne(t *testing.T) {
	d := dice(74)
	for range 3000 {
		var list []impl.Policy
		last := map[string]impl.Policy{}
		for range 25 {
			p := d.remembered(oneOf(&d, inOrder(12)...))
			_, there := last[p.Domain]
			made, done := impl.CachePut(list, p)
			if done != (policyByWord(p) && (there || len(last) < 10)) {
				t.Fatalf("%+v into %+v: %v", p, list, done)
			}
			if done {
				last[p.Domain] = p
			}
			list = made
		}
		if len(list) != len(last) || !impl.CacheOk(list) {
			t.Fatalf("%+v", list)
		}
		for domain, p := range last {
			isGot(t, list, domain, p.Until, p)
			isNotGot(t, list, domain, p.Until+1)
		}
	}
}

// What is over is not got, whether it is dropped or not.
func TestWhatIsDroppedIsNotMissed(t *testing.T) {
	for count := range impl.MaxCache + 1 {
		list := someCache(count)
		for now := range 130 {
			kept := impl.CacheDrop(list, now)
			for _, p := range list {
				for _, later := range []int{now, now + 1, now + 10, math.MaxInt} {
					if p.Until >= later {
						isGot(t, kept, p.Domain, later, p)
					} else {
						isNotGot(t, kept, p.Domain, later)
						isNotGot(t, list, p.Domain, later)
					}
				}
			}
		}
	}
}
