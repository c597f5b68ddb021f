package tests

import (
	"slices"
	"strings"
	"testing"

	"loop.example/g00328/impl"
)

// putByWord is what the document says of CachePut, told apart from the program.
func putByWord(list []impl.Policy, p impl.Policy) ([]impl.Policy, bool) {
	if !ascendingByWord(domainsOf(list)) {
		return list, false
	}
	made := slices.Concat(slices.DeleteFunc(slices.Clone(list), func(q impl.Policy) bool { return q.Domain == p.Domain }), []impl.Policy{p})
	slices.SortFunc(made, func(a, b impl.Policy) int { return strings.Compare(a.Domain, b.Domain) })
	if !cacheByWord(made) {
		return list, false
	}
	return made, true
}

// isPut holds CachePut against what is to be there behind it.
func isPut(t *testing.T, list []impl.Policy, p impl.Policy, want []impl.Policy) {
	t.Helper()
	got, done := impl.CachePut(list, p)
	if !done || !samePolicies(got, want) {
		t.Errorf("%+v into %+v: %+v %v", p, list, got, done)
	}
	if !impl.CacheOk(got) {
		t.Errorf("%+v into %+v: not ok", p, list)
	}
}

func isNotPut(t *testing.T, list []impl.Policy, p impl.Policy) {
	t.Helper()
	got, done := impl.CachePut(list, p)
	if done || !samePolicies(got, list) {
		t.Errorf("%+v into %+v: %+v %v", p, list, got, done)
	}
}

func TestCachePutByTable(t *testing.T) {
	for _, c := range []struct{ there, domain, want string }{
		{"", "a", "a"}, {"b", "a", "a b"}, {"a", "b", "a b"}, {"a c", "b", "a b c"}, {"a b", "c", "a b c"}, {"b c", "a", "a b c"},
		{"a", "a", "a"}, {"a b c", "a", "a b c"}, {"a b c", "b", "a b c"}, {"a b c", "c", "a b c"},
		{"a", "aa", "a aa"}, {"aa", "a", "a aa"}, {"a b", "aa", "a aa b"}, {"aa b", "a", "a aa b"}, {"ab", "aa", "aa ab"}, {"aa", "ab", "aa ab"}, {"b", "ab", "ab b"}, {"ab", "b", "ab b"}, {"a aa ab b", "aaa", "a aa aaa ab b"},
		{"z", "zz", "z zz"}, {"zz", "z", "z zz"}, {"aaaaaaaaab", "aaaaaaaaaa", "aaaaaaaaaa aaaaaaaaab"}, {"b", "zzzzzzzzzz", "b zzzzzzzzzz"},
	} {
		p := impl.Policy{Domain: c.domain, Mode: impl.MdHold, Mx: []string{"mx.a", "*.b"}, Until: 77}
		got, done := impl.CachePut(cacheOf(strings.Fields(c.there)...), p)
		if !done || strings.Join(domainsOf(got), " ") != c.want {
			t.Errorf("%s into %s: %+v %v", c.domain, c.there, got, done)
			continue
		}
		if at := slices.Index(strings.Fields(c.want), c.domain); !samePolicy(got[at], p) {
			t.Errorf("%s into %s: %+v", c.domain, c.there, got)
		}
	}
}

func TestCachePutIntoNone(t *testing.T) {
	for _, p := range goodPolicies() {
		isPut(t, nil, p, []impl.Policy{p})
		isPut(t, []impl.Policy{}, p, []impl.Policy{p})
	}
	for _, p := range badPolicies() {
		isNotPut(t, nil, p)
		isNotPut(t, []impl.Policy{}, p)
	}
}

// Ahead of all, between each two and behind all.
func TestCachePutAtEachPlace(t *testing.T) {
	for count := 1; count <= impl.MaxCache; count++ {
		for at := range count {
			whole := someCache(count)
			without := slices.Concat(whole[:at], whole[at+1:])
			isPut(t, without, whole[at], whole)
		}
	}
}

func TestCachePutInThePlaceOfItsDomain(t *testing.T) {
	for count := 1; count <= impl.MaxCache; count++ {
		for at := range count {
			list := someCache(count)
			was := list[at]
			for _, p := range []impl.Policy{
				was,
				{Domain: was.Domain},
				{Domain: was.Domain, Mode: was.Mode, Mx: was.Mx, Until: was.Until + 1},
				{Domain: was.Domain, Mode: was.Mode, Mx: was.Mx, Until: was.Until - 1},
				{Domain: was.Domain, Mode: was.Mode, Mx: was.Mx, Until: impl.MaxTime},
				{Domain: was.Domain, Mode: was.Mode, Mx: was.Mx},
				{Domain: was.Domain, Mode: (was.Mode + 1) % 3, Mx: was.Mx, Until: was.Until},
				{Domain: was.Domain, Mode: (was.Mode + 2) % 3, Mx: was.Mx, Until: was.Until},
				{Domain: was.Domain, Mode: was.Mode, Mx: []string{"0.0"}, Until: was.Until},
				{Domain: was.Domain, Mode: was.Mode, Mx: someMx(1), Until: was.Until},
				{Domain: was.Domain, Mode: was.Mode, Mx: someMx(impl.MaxMx), Until: was.Until},
			} {
				isPut(t, list, p, withPolicy(list, at, p))
			}
		}
	}
}

func TestCachePutOfWhatIsNoPolicy(t *testing.T) {
	for count := range impl.MaxCache + 1 {
		for _, p := range badPolicies() {
			isNotPut(t, someCache(count), p)
			if domainByWord(p.Domain) {
				p.Domain = "c"
				isNotPut(t, someCache(count), p)
			}
		}
	}
}

func TestCachePutUpToMaxCache(t *testing.T) {
	for count := range 15 {
		list := someCache(count)
		for _, domain := range []string{"aaaa", "abc", "c", "x", "yyy", "zzzzzzzzzy"} {
			p := impl.Policy{Domain: domain, Mode: impl.MdTest, Mx: []string{"mx.a"}, Until: 5}
			want, fits := putByWord(list, p)
			if fits != (count < 10) {
				t.Fatal(count, fits)
			}
			if fits {
				isPut(t, list, p, want)
			} else {
				isNotPut(t, list, p)
			}
		}
		for at := range count {
			p := impl.Policy{Domain: list[at].Domain, Until: 5}
			if count <= 10 {
				isPut(t, list, p, withPolicy(list, at, p))
			} else {
				isNotPut(t, list, p)
			}
		}
	}
}

// What is put in the place of the only one that is no policy makes the list right.
func TestCachePutMakesAListRight(t *testing.T) {
	for _, count := range []int{1, 2, 3, impl.MaxCache} {
		for at := range count {
			good := someCache(count)
			for _, list := range badAt(count, at) {
				if list[at].Domain == good[at].Domain {
					isPut(t, list, good[at], good)
				} else {
					isNotPut(t, list, good[at])
				}
				other := good[(at+1)%count]
				other.Until++
				if count > 1 {
					isNotPut(t, list, other)
				}
				isNotPut(t, list, impl.Policy{Domain: "x", Until: 5})
				isNotPut(t, list, list[at])
			}
		}
	}
}

func TestCachePutWhereTwoAreNoPolicies(t *testing.T) {
	for i := range 5 {
		for j := range i {
			list := someCache(5)
			list[i].Mode, list[j].Until = 3, -1
			isNotPut(t, list, someCache(5)[i])
			isNotPut(t, list, someCache(5)[j])
		}
	}
}

// No policy puts the others in order, not even that of a domain that is there twice.
func TestCachePutIntoWhatIsOutOfOrder(t *testing.T) {
	for _, list := range outOfOrder() {
		for _, domain := range append(inOrder(14), "c", "x") {
			isNotPut(t, list, impl.Policy{Domain: domain, Mode: impl.MdHold, Mx: []string{"mx.a"}, Until: 5})
		}
		for _, p := range list {
			isNotPut(t, list, p)
		}
	}
}

func TestCachePutIntoManyMore(t *testing.T) {
	list := slices.Repeat(someCache(impl.MaxCache), 1000)
	isNotPut(t, list, list[0])
	isNotPut(t, list, impl.Policy{Domain: "x"})
	isNotPut(t, list, impl.Policy{})
}

func TestCachePutByWord(t *testing.T) {
	d, put, mended := dice(72), 0, 0
	for range 40000 {
		list := d.cache()
		p := d.remembered(oneOf(&d, append(inOrder(14), "c", "x")...))
		if len(list) > 0 && d.below(2) == 0 {
			p.Domain = oneOf(&d, list...).Domain
		}
		want, done := putByWord(list, p)
		got, ok := impl.CachePut(list, p)
		if ok != done || !samePolicies(got, want) {
			t.Fatalf("%+v into %+v: %+v %v", p, list, got, ok)
		}
		if done {
			put++
		}
		if done && !cacheByWord(list) {
			mended++
		}
	}
	if put < 5000 || put > 35000 || mended < 100 {
		t.Error("the lists ask for too little:", put, mended)
	}
}
