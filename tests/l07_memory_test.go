package tests

import (
	"math"
	"slices"
	"strings"
	"testing"

	"loop.example/g00328/impl"
)

func sparePolicy() impl.Policy { return impl.Policy{Domain: "spare", Mode: -7, Until: -7} }

// roomyPolicies is list with spare room behind it and behind the patterns of
// each, something in all of it.
func roomyPolicies(list []impl.Policy) []impl.Policy {
	var roomy []impl.Policy
	for _, p := range list {
		roomy = append(roomy, roomyPolicy(p))
	}
	whole := slices.Concat(roomy, slices.Repeat([]impl.Policy{sparePolicy()}, spareRoom))
	return whole[:len(list)]
}

func roomyPolicy(p impl.Policy) impl.Policy {
	p.Mx = roomyTexts(p.Mx)
	return p
}

func untouchedPolicies(list, was []impl.Policy) bool {
	if !samePolicies(list, was) {
		return false
	}
	for i := range list {
		if !untouchedTexts(list[i].Mx, was[i].Mx) {
			return false
		}
	}
	spare := list[len(list):cap(list)][:spareRoom]
	return samePolicies(spare, slices.Repeat([]impl.Policy{sparePolicy()}, spareRoom))
}

// overwritePolicies writes into all that list has: each pattern, each policy,
// and the spare room.
func overwritePolicies(list []impl.Policy) {
	for _, p := range list[:cap(list)] {
		overwrite(p.Mx)
	}
	for i := range list[:cap(list)] {
		list[:cap(list)][i] = impl.Policy{Domain: "overwritten", Mode: -9, Mx: []string{"overwritten"}, Until: -9}
	}
}

// copied is list in memory of its own, made here.
func copied(list []impl.Policy) []impl.Policy {
	list = slices.Clone(list)
	for i := range list {
		list[i].Mx = slices.Clone(list[i].Mx)
	}
	return list
}

// someLists are right ones and others.
func someLists() [][]impl.Policy {
	lists := append(outOfOrder()[:60], nil)
	for count := range 14 {
		lists = append(lists, someCache(count))
	}
	for at := range 4 {
		bad := someCache(4)
		bad[at].Until = -1
		lists = append(lists, bad)
	}
	return lists
}

// somePuts are of domains that are there and of others, and what is no policy.
func somePuts() []impl.Policy {
	list := []impl.Policy{{}, {Domain: "a", Mode: 3}, {Domain: "x", Mode: impl.MdHold, Until: 5}, {Domain: "b", Mx: someMx(6)}}
	for _, domain := range []string{"a", "ab", "b", "c", "mxa", "x", "zzzzzzzzzz"} {
		list = append(list, impl.Policy{Domain: domain, Mode: impl.MdHold, Mx: someMx(3), Until: 40})
	}
	return list
}

func someTimes() []int { return []int{math.MinInt, -1, 0, 35, 40, 41, 1000, math.MaxInt} }

func TestWhatIsRememberedIsNotWrittenInto(t *testing.T) {
	for _, was := range someLists() {
		list := roomyPolicies(was)
		for _, put := range somePuts() {
			p := roomyPolicy(put)
			impl.CacheOk(list)
			impl.CachePut(list, p)
			if !samePolicy(p, put) || !untouchedTexts(p.Mx, put.Mx) {
				t.Errorf("written into: %+v", put)
			}
		}
		for _, now := range someTimes() {
			impl.CacheDrop(list, now)
			impl.CacheGet(list, "a", now)
			impl.CacheGet(list, "x", now)
		}
		if !untouchedPolicies(list, was) {
			t.Errorf("written into: %+v", was)
		}
	}
}

// ownMemory holds that what is written into an answer is seen in no argument and
// in no other answer. Each call of ask gives an answer anew.
func ownMemory(t *testing.T, list []impl.Policy, p impl.Policy, ask func() []impl.Policy) {
	t.Helper()
	wasList, wasP := copied(list), copied([]impl.Policy{p})[0]
	one, two := ask(), ask()
	was := copied(two)
	noTextsWithin(t, one, append(copied(list), p))
	overwritePolicies(one)
	if !samePolicies(list, wasList) || !samePolicy(p, wasP) {
		t.Fatalf("an answer shares memory with an argument: %+v %+v", wasList, wasP)
	}
	if !samePolicies(two, was) {
		t.Fatalf("two answers share memory: %+v %+v", wasList, wasP)
	}
	if three := ask(); !samePolicies(three, was) {
		t.Fatalf("what is done with an answer is seen in the next one: %+v %+v", wasList, wasP)
	}
	listsApart(t, two)
}

// listsApart holds that no two lists of patterns in one answer share memory.
func listsApart(t *testing.T, answer []impl.Policy) {
	t.Helper()
	for i := range answer {
		was := copied(answer)
		overwrite(answer[i].Mx)
		for j := range answer {
			if j != i && !samePolicy(answer[j], was[j]) {
				t.Fatalf("two lists of one answer share memory: %+v", was)
			}
		}
	}
}

func policyTexts(list []impl.Policy) []string {
	var texts []string
	for _, p := range list {
		texts = append(texts, p.Domain)
		texts = append(texts, p.Mx...)
	}
	return texts
}

func noTextsWithin(t *testing.T, answer, given []impl.Policy) {
	t.Helper()
	for _, text := range policyTexts(answer) {
		for _, other := range policyTexts(given) {
			if text != "" && liesWithin(text, other) {
				t.Fatalf("%q shares memory with an argument", text)
			}
		}
	}
}

func TestWhatIsRememberedIsNewMemory(t *testing.T) {
	for _, list := range someLists() {
		for _, p := range somePuts() {
			ownMemory(t, list, p, func() []impl.Policy {
				made, _ := impl.CachePut(list, p)
				return made
			})
		}
		for _, now := range someTimes() {
			ownMemory(t, list, impl.Policy{}, func() []impl.Policy { return impl.CacheDrop(list, now) })
			for _, domain := range []string{"a", "ab", "b", "zzzzzzzzzz", ""} {
				ownMemory(t, list, impl.Policy{}, func() []impl.Policy {
					p, _ := impl.CacheGet(list, domain, now)
					return []impl.Policy{p}
				})
			}
		}
	}
}

// The arguments may share memory with each other: the lists of an answer don't.
func TestWhatIsRememberedOfOneMemory(t *testing.T) {
	mx := roomyTexts(someMx(4))
	var list []impl.Policy
	for _, domain := range inOrder(6) {
		list = append(list, impl.Policy{Domain: domain, Mode: impl.MdHold, Mx: mx[:1+len(list)%4], Until: 40})
	}
	for _, domain := range []string{"a", "aaa", "c", "z", "A"} {
		p := impl.Policy{Domain: domain, Mode: impl.MdTest, Mx: mx[:2], Until: 50}
		ownMemory(t, list, p, func() []impl.Policy {
			made, _ := impl.CachePut(list, p)
			return made
		})
	}
	for _, now := range someTimes() {
		ownMemory(t, list, list[0], func() []impl.Policy { return impl.CacheDrop(list, now) })
	}
	// One of the list is put into it, and into a piece of it that has it behind.
	for at := range list {
		ownMemory(t, list, list[at], func() []impl.Policy {
			made, _ := impl.CachePut(list, list[at])
			return made
		})
		ownMemory(t, list[:at], list[at], func() []impl.Policy {
			made, _ := impl.CachePut(list[:at], list[at])
			return made
		})
	}
	if !untouchedTexts(mx, someMx(4)) {
		t.Error("written into the patterns")
	}
}

// rememberedOf are all answers of chapter 7 at a list, a policy and a time, as text.
func rememberedOf(list []impl.Policy, p impl.Policy, now int) []any {
	made, put := impl.CachePut(list, p)
	kept := impl.CacheDrop(list, now)
	got, done := impl.CacheGet(list, p.Domain, now)
	told := []any{impl.CacheOk(list), put, done, len(made), len(kept), got.Mode, got.Until}
	for _, answer := range [][]impl.Policy{made, kept, {got}} {
		told = append(told, strings.Join(policyTexts(answer), "\n"))
		for _, p := range answer {
			told = append(told, p.Mode, len(p.Mx), p.Until)
		}
		overwritePolicies(answer)
	}
	return told
}

// What is asked first, and what was asked before, is nothing to an answer.
func TestWhatIsRememberedIsNotKept(t *testing.T) {
	type question struct {
		list []impl.Policy
		p    impl.Policy
		now  int
	}
	var questions []question
	for _, list := range someLists() {
		for _, p := range somePuts() {
			for _, now := range someTimes() {
				questions = append(questions, question{list, p, now})
			}
		}
	}
	var first [][]any
	for _, q := range questions {
		first = append(first, rememberedOf(q.list, q.p, q.now))
	}
	for i, q := range slices.Backward(questions) {
		if again := rememberedOf(q.list, q.p, q.now); !slices.Equal(again, first[i]) {
			t.Errorf("%+v: %q %q", q, first[i], again)
		}
	}
}
