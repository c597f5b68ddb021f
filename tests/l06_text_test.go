package tests

import (
	"math"
	"regexp"
	"slices"
	"strconv"
	"strings"
	"testing"

	"loop.example/g00328/impl"
)

// textByWord is what the document says of PolicyText, told apart from the program.
func textByWord(p impl.Policy, age int) string {
	if !policyByWord(p) {
		return ""
	}
	s := "version: v1\nmode: " + []string{"none", "test", "hold"}[p.Mode] + "\n"
	for _, pattern := range p.Mx {
		s += "mx: " + pattern + "\n"
	}
	if age < 0 || age > 100000 {
		age = 0
	}
	return s + "age: " + strconv.Itoa(age) + "\n"
}

var policyForm = regexp.MustCompile(`\Aversion: v1\nmode: (none|test|hold)\n((?:mx: [^\n]*\n)*)age: (0|[1-9][0-9]{0,5})\n\z`)

// readByWord is what the document says of PolicyOf, told apart from the program.
func readByWord(domain, s string, now int) (impl.Policy, bool) {
	found := policyForm.FindStringSubmatch(s)
	if found == nil {
		return impl.Policy{}, false
	}
	p := impl.Policy{Domain: domain, Mode: slices.Index([]string{"none", "test", "hold"}, found[1])}
	for line := range strings.Lines(found[2]) {
		p.Mx = append(p.Mx, line[4:len(line)-1])
	}
	age, _ := strconv.Atoi(found[3])
	p.Until = endByWord(now, age)
	if age > 100000 || !policyByWord(p) {
		return impl.Policy{}, false
	}
	return p, true
}

// endByWord is now and age together, as the document has it. Of a now that is
// greater than any time the age is nothing any more.
func endByWord(now, age int) int {
	switch {
	case now < 0:
		return min(age, 100000)
	case now > 100000:
		return 100000
	}
	return min(now+age, 100000)
}

// oddNumbers are what an age or a time may be given as.
func oddNumbers() []int {
	list := []int{
		0, 1, 2, 8, 9, 10, 11, 12, 30, 50, 99, 100, 101, 999, 1000, 49999, 50000, 50001, 99990, 99998, impl.MaxTime - 1, impl.MaxTime,
		math.MaxInt - impl.MaxTime, math.MaxInt - impl.MaxTime + 1, math.MinInt + impl.MaxTime, math.MinInt + impl.MaxTime - 1, math.MaxInt32, math.MinInt32,
	}
	return append(list, badUntils()...)
}

func isNone(p impl.Policy) bool { return samePolicy(p, impl.Policy{}) }

// asked is PolicyOf held against the document's word; what it answers is said
// where it is another.
func asked(t *testing.T, domain, s string, now int) bool {
	t.Helper()
	want, done := readByWord(domain, s, now)
	got, ok := impl.PolicyOf(domain, s, now)
	if ok != done || !samePolicy(got, want) {
		t.Errorf("%q %q now %d: %+v %v, not %+v %v", domain, s, now, got, ok, want, done)
	}
	return done
}

func TestPolicyTextByTable(t *testing.T) {
	for _, c := range []struct {
		mode int
		mx   []string
		age  int
		want string
	}{
		{impl.MdNone, nil, 0, "version: v1\nmode: none\nage: 0\n"},
		{impl.MdNone, []string{}, 9, "version: v1\nmode: none\nage: 9\n"},
		{impl.MdNone, []string{"mx.a"}, 10, "version: v1\nmode: none\nmx: mx.a\nage: 10\n"},
		{impl.MdTest, []string{"*.a"}, 100, "version: v1\nmode: test\nmx: *.a\nage: 100\n"},
		{impl.MdHold, []string{"*.a", "mx.b"}, 30, "version: v1\nmode: hold\nmx: *.a\nmx: mx.b\nage: 30\n"},
		{impl.MdHold, []string{"mx.b", "*.a"}, 30, "version: v1\nmode: hold\nmx: mx.b\nmx: *.a\nage: 30\n"},
		{impl.MdHold, []string{"b.b", "a.a", "b.b", "a.a", "b.b"}, 100000, "version: v1\nmode: hold\nmx: b.b\nmx: a.a\nmx: b.b\nmx: a.a\nmx: b.b\nage: 100000\n"},
		{impl.MdHold, []string{"mx.a"}, 100001, "version: v1\nmode: hold\nmx: mx.a\nage: 0\n"},
		{impl.MdHold, []string{"mx.a"}, -1, "version: v1\nmode: hold\nmx: mx.a\nage: 0\n"},
		{impl.MdTest, []string{"mx.a"}, math.MinInt, "version: v1\nmode: test\nmx: mx.a\nage: 0\n"},
		{impl.MdNone, []string{"mx.a"}, math.MaxInt, "version: v1\nmode: none\nmx: mx.a\nage: 0\n"},
	} {
		for _, until := range []int{0, 50, impl.MaxTime} {
			p := impl.Policy{Domain: "a", Mode: c.mode, Mx: c.mx, Until: until}
			if got := impl.PolicyText(p, c.age); got != c.want {
				t.Errorf("%q, not %q", got, c.want)
			}
		}
	}
}

func TestPolicyTextOfGoodAndBad(t *testing.T) {
	for _, p := range goodPolicies() {
		for _, age := range oddNumbers() {
			if got := impl.PolicyText(p, age); got != textByWord(p, age) {
				t.Errorf("%q, not %q", got, textByWord(p, age))
			}
		}
	}
	for _, p := range badPolicies() {
		for _, age := range []int{0, 30, -1, impl.MaxTime, math.MaxInt} {
			if got := impl.PolicyText(p, age); got != "" {
				t.Errorf("%q of %+v", got, p)
			}
		}
	}
}

func TestPolicyIsReadAsItWas(t *testing.T) {
	for _, p := range goodPolicies() {
		for _, age := range []int{0, 9, 10, 30, impl.MaxTime, impl.MaxTime + 1, -1} {
			s := impl.PolicyText(p, age)
			for _, now := range []int{0, 12, -1, impl.MaxTime} {
				want := p
				want.Until = endByWord(now, max(age%(impl.MaxTime+1), 0))
				if got, done := impl.PolicyOf(p.Domain, s, now); !done || !samePolicy(got, want) || impl.PolicyText(got, age) != s {
					t.Errorf("%q now %d: %+v %v, not %+v", s, now, got, done, want)
				}
			}
		}
	}
	for age := range impl.MaxTime + 1 {
		p := impl.Policy{Domain: "a", Mode: impl.MdHold, Mx: []string{"mx.a"}}
		got, done := impl.PolicyOf("a", impl.PolicyText(p, age), 0)
		if p.Until = age; !done || !samePolicy(got, p) {
			t.Fatal(age, got, done)
		}
	}
}

func TestPolicyOfByNow(t *testing.T) {
	for _, c := range []struct{ now, age, until int }{
		{0, 0, 0}, {12, 30, 42}, {0, 30, 30}, {-1, 30, 30}, {-30, 30, 30}, {math.MinInt, 30, 30}, {30, 0, 30}, {-1, 0, 0},
		{99970, 30, 100000}, {99971, 30, 100000}, {99969, 30, 99999}, {100000, 0, 100000}, {100000, 30, 100000}, {0, 100000, 100000}, {1, 100000, 100000}, {-1, 100000, 100000}, {100000, 100000, 100000},
		{100001, 0, 100000}, {math.MaxInt, 0, 100000}, {math.MaxInt, 1, 100000}, {math.MaxInt, 100000, 100000}, {math.MaxInt - 99999, 100000, 100000}, {math.MinInt, 100000, 100000}, {math.MinInt, 0, 0}, {1 << 32, 30, 100000}, {-1 << 32, 30, 30},
	} {
		s := "version: v1\nmode: hold\nmx: mx.a\nage: " + strconv.Itoa(c.age) + "\n"
		want := impl.Policy{Domain: "a", Mode: impl.MdHold, Mx: []string{"mx.a"}, Until: c.until}
		if got, done := impl.PolicyOf("a", s, c.now); !done || !samePolicy(got, want) {
			t.Errorf("now %d age %d: %+v %v", c.now, c.age, got, done)
		}
	}
	for _, mode := range allModes() {
		for age := range goodUntils() {
			s := textByWord(impl.Policy{Domain: "a", Mode: mode, Mx: someMx(2)}, age)
			for _, now := range oddNumbers() {
				if !asked(t, "a", s, now) {
					t.Fatal("is no text itself:", s)
				}
			}
		}
	}
}

func TestPolicyOfAgesThatAreNone(t *testing.T) {
	ages := []string{
		"", " ", "-", "+", "00", "000", "01", "09", "030", "0030", "00000000000000000000030", "-0", "+0", "-1", "-30", "+30", "--30", " 30", "30 ", "3 0", "\t30", "30\t", "30\r", "\r30", "30\x00", "\x0030",
		"30.", "30.0", ".3", "3e1", "0x1e", "0b1", "0o36", "0x0", "3_0", "1_000", "3,0", "x", "3x", "x3", "thirty", "\u0663", "\uff13\uff10", "<30>", "\"30\"", "\xff", "3\xff", "inf", "NaN",
		"100001", "100002", "100010", "0100000", "200000", "999999", "1000000", "4294967296", "4294967326", "2147483648", "-2147483648",
		"9223372036854775807", "9223372036854775808", "-9223372036854775808", "-9223372036854775809", "18446744073709551615", "18446744073709551616", "18446744073709551646",
		strings.Repeat("9", 300), "1" + strings.Repeat("0", 299), strings.Repeat("0", 300), strings.Repeat("0", 298) + "30", strings.Repeat("9", 100000), strings.Repeat("0", 100000),
		"30\n30", "30\nage: 30", "age: 30", "\n30", "30\n",
	}
	for _, mode := range []string{"none", "test", "hold"} {
		head := "version: v1\nmode: " + mode + "\nmx: mx.a\n"
		if !asked(t, "a", head+"age: 30\n", 0) {
			t.Fatal("the right one is none")
		}
		for _, age := range ages {
			if got, done := impl.PolicyOf("a", head+"age: "+age+"\n", 12); done || !isNone(got) {
				t.Errorf("read: %s %.80q", mode, age)
			}
		}
	}
}

func TestPolicyOfModesThatAreNone(t *testing.T) {
	for _, mode := range []string{
		"", " ", "None", "NONE", "Hold", "HOLD", "Test", "hold ", " hold", "hold\r", "hold\x00", "hol", "holds", "old", "h", "non", "nones", "tes", "tests", "testing", "enforce", "0", "1", "2", "?", "none test", "nonetest", "none,hold", "mode: hold", "none\nhold", "hold\nmode: hold", "h\u03bfld", "\xff", "*",
	} {
		for _, lines := range []string{"", "mx: mx.a\n", "mx: mx.a\nmx: *.b\n"} {
			s := "version: v1\nmode: " + mode + "\n" + lines + "age: 30\n"
			if got, done := impl.PolicyOf("a", s, 12); done || !isNone(got) {
				t.Errorf("read: %q", s)
			}
		}
	}
}

func TestPolicyOfByCountOfPatterns(t *testing.T) {
	for mode, word := range []string{"none", "test", "hold"} {
		for count := range 20 {
			s := "version: v1\nmode: " + word + "\n" + strings.Repeat("mx: mx.a\n", count) + "age: 30\n"
			want := count >= leastMx(mode) && count <= impl.MaxMx
			got, done := impl.PolicyOf("a", s, 12)
			if done != want || done && len(got.Mx) != count || !done && !isNone(got) {
				t.Error(word, count, got, done)
			}
		}
		for _, count := range []int{1000, 100000} {
			if got, done := impl.PolicyOf("a", "version: v1\nmode: "+word+"\n"+strings.Repeat("mx: mx.a\n", count)+"age: 30\n", 0); done || !isNone(got) {
				t.Error(word, count)
			}
		}
	}
}

func TestPolicyOfEachPattern(t *testing.T) {
	for count := 1; count <= impl.MaxMx; count++ {
		for at := range count {
			for _, pattern := range append(goodPatterns(), badPatterns()...) {
				s := "version: v1\nmode: hold\nmx: " + strings.Join(with(someMx(count), at, pattern), "\nmx: ") + "\nage: 30\n"
				if done := asked(t, "a", s, 12); done != patternByWord(pattern) {
					t.Errorf("%q at %d of %d: %v", pattern, at, count, done)
				}
			}
		}
	}
}

func TestPolicyOfDomains(t *testing.T) {
	for _, s := range []string{"version: v1\nmode: none\nage: 0\n", "version: v1\nmode: hold\nmx: mx.a\nmx: *.b\nage: 30\n"} {
		for _, domain := range goodDomains() {
			if got, done := impl.PolicyOf(domain, s, 12); !done || got.Domain != domain {
				t.Errorf("%q %v", domain, done)
			}
		}
		for _, domain := range badDomains() {
			if got, done := impl.PolicyOf(domain, s, 12); done || !isNone(got) {
				t.Errorf("%q %+v", domain, got)
			}
		}
	}
	for _, domain := range append(goodDomains(), badDomains()...) {
		if got, done := impl.PolicyOf(domain, "", 12); done || !isNone(got) {
			t.Errorf("the empty text of %q: %+v", domain, got)
		}
	}
}

func TestPolicyOfOtherTexts(t *testing.T) {
	version, mode, one, two, age := "version: v1\n", "mode: hold\n", "mx: mx.a\n", "mx: *.b\n", "age: 30\n"
	right := version + mode + one + two + age
	if !asked(t, "a", right, 0) {
		t.Fatal("the right one is none")
	}
	for _, s := range []string{
		"", "\n", "\n\n\n", "\n\n\n\n", "\n\n\n\n\n\n\n\n", version, mode, one, age, version + mode, version + age, mode + age, version + mode + one, version + one + age, mode + one + age, version + mode + age, version + one + two + age,
		version + one + mode + two + age, version + mode + one + age + two, version + mode + age + one + two, mode + version + one + two + age, one + two + version + mode + age, age + version + mode + one + two, version + one + two + mode + age, age + two + one + mode + version, mode + one + two + age + version,
		version + right, version + version + mode + one + age, version + mode + mode + one + age, version + mode + one + mode + age, version + mode + one + age + age, version + mode + one + age + one + age, right + right, right + age, version + mode + one + version + age,
		"\n" + right, right + "\n", version + "\n" + mode + one + age, version + mode + "\n" + one + age, version + mode + one + "\n" + two + age, version + mode + one + two + "\n" + age, version + mode + "\n" + age,
		right[:len(right)-1], right + " ", right + "x", right + "#", right + "\x00", right + "\r", right + "\r\n", " " + right, "\ufeff" + right, "\x00" + right, "x" + right, "#\n" + right, right[1:],
		strings.ReplaceAll(right, "\n", "\r\n"), strings.ReplaceAll(right, "\n", "\r"), strings.ReplaceAll(right, "\n", " "), strings.ReplaceAll(right, "\n", ""), strings.ReplaceAll(right, "\n", "\n\n"), strings.ReplaceAll(right, ": ", ":"), strings.ReplaceAll(right, ": ", ":  "), strings.ReplaceAll(right, ": ", " : "), strings.ReplaceAll(right, ": ", ":\t"), strings.ReplaceAll(right, ": ", "="), strings.ReplaceAll(right, ": ", " "), strings.ToUpper(right),
		"version: v2\n" + mode + one + age, "version: v0\n" + mode + one + age, "version: v\n" + mode + one + age, "version: v10\n" + mode + one + age, "version: v11\n" + mode + one + age, "version: V1\n" + mode + one + age, "version: 1\n" + mode + one + age, "version: STSv1\n" + mode + one + age, "version:\n" + mode + one + age, "version: \n" + mode + one + age, "version\n" + mode + one + age, "v1\n" + mode + one + age, "Version: v1\n" + mode + one + age, "version: v1 \n" + mode + one + age, "version:  v1\n" + mode + one + age,
		version + "hold\n" + one + age, version + "Mode: hold\n" + one + age, version + "mode: \n" + one + age, version + "mode:\n" + one + age, version + "mode\n" + one + age, version + "mx: hold\n" + one + age,
		version + mode + "mx.a\n" + age, version + mode + "mx: \n" + age, version + mode + "mx:\n" + age, version + mode + "mx\n" + age, version + mode + "Mx: mx.a\n" + age, version + mode + "mx: mx.a *.b\n" + age, version + mode + "mx: mx.a,*.b\n" + age, version + mode + "mx: mx: mx.a\n" + age, version + mode + "mx:  mx.a\n" + age, version + mode + "mx: mx.a \n" + age, version + mode + one + "*.b\n" + age, version + mode + "*.b\n" + two + age, version + mode + "mode: mx.a\n" + age, version + mode + "age: mx.a\n" + age,
		version + mode + one + "30\n", version + mode + one + "Age: 30\n", version + mode + one + "max_age: 30\n", version + mode + one + "age: age: 30\n", version + mode + one + "mx: 30\n", version + mode + one + "0\n", version + mode + one + "\n", version + "mode: none\n" + "0\n", version + "mode: none\n\n", version + "none\n" + "age: 0\n", "\nmode: none\nage: 0\n", version + "\nage: 0\n",
		strings.Repeat("x", 1000000), strings.Repeat("\n", 1000000), strings.Repeat(right, 1000), right + strings.Repeat(" ", 1000000),
	} {
		if got, done := impl.PolicyOf("a", s, 12); done || !isNone(got) {
			t.Errorf("read: %.200q", s)
		}
		if asked(t, "b", s, 0) {
			t.Errorf("by its word it is one: %.200q", s)
		}
	}
}

// Of each text that is right, one byte is taken away, one is put in, and one is
// put in the place of another, everywhere.
func TestPolicyOfByteByByte(t *testing.T) {
	bytes := "\n\r\x00 :*.-0139adehklmnorstvxzAM\xc3\xff"
	read := 0
	for _, right := range []string{"version: v1\nmode: none\nage: 0\n", "version: v1\nmode: hold\nmx: *.a\nmx: mx.b\nage: 30\n", "version: v1\nmode: test\nmx: a.a\nage: 100000\n", "version: v1\nmode: none\nmx: a.a\nage: 99999\n"} {
		for at := range len(right) {
			texts := []string{right[:at], right[at:], right[:at] + right[at+1:]}
			for _, b := range []byte(bytes) {
				texts = append(texts, right[:at]+string([]byte{b})+right[at+1:], right[:at]+string([]byte{b})+right[at:])
			}
			for _, s := range texts {
				if asked(t, "a", s, 12) {
					read++
				}
			}
		}
	}
	if read < 100 {
		t.Error("the texts ask for too little:", read)
	}
}

func TestPolicyOfByWord(t *testing.T) {
	d, read := dice(66), 0
	for range 60000 {
		s := oneOf(&d, "version: v1\n", "version: v1\n", "version: v1\n", "version: v1\n", "version: v1\n", "version: v1\n", "version: v2\n", "", "\n")
		s += oneOf(&d, "mode: none\n", "mode: test\n", "mode: hold\n", "mode: none\n", "mode: test\n", "mode: hold\n", "mode: \n", "mode: held\n", "")
		for range oneOf(&d, 0, 0, 1, 1, 2, 3, 4, 5, 6, 7) {
			s += oneOf(&d, "mx: *.a\n", "mx: mx.a\n", "mx: mx.b\n", "mx: *.mx.a\n", "mx: a.a\n", "mx: 0.0\n", "mx: a-b.c\n", "mx: x.y.z\n", "mx: b.b\n", "mx: *\n", "mx.a\n")
		}
		s += oneOf(&d, "age: 0\n", "age: 9\n", "age: 30\n", "age: 99999\n", "age: 100000\n", "age: 100001\n", "age: 00\n", "age: 07\n", "age: \n", "age: 5", "age: 5\n\n")
		domain := oneOf(&d, "a", "a", "b", "mx", tenBytes, "", "A", tenBytes+"k")
		if asked(t, domain, s, oneOf(&d, oddNumbers()...)) {
			read++
		}
	}
	if read < 3000 {
		t.Error("the texts ask for too little:", read)
	}
}

func TestPolicyTextOfWhatIsDiced(t *testing.T) {
	d, told := dice(67), 0
	for range 30000 {
		p, age, now := d.policy(), oneOf(&d, oddNumbers()...), oneOf(&d, oddNumbers()...)
		s := impl.PolicyText(p, age)
		if s != textByWord(p, age) {
			t.Fatalf("%q, not %q", s, textByWord(p, age))
		}
		if asked(t, p.Domain, s, now) != (s != "") {
			t.Fatalf("%q", s)
		}
		if s != "" {
			told++
		}
	}
	if told < 1000 {
		t.Error("the policies ask for too little:", told)
	}
}
