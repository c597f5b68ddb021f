package tests

import (
	"slices"
	"strings"
	"testing"
	"unsafe"

	"loop.example/g00328/impl"
)

// labelsByWord is what the document says of Labels, byte by byte.
func labelsByWord(s string) []string {
	labels := []string{""}
	for _, b := range []byte(s) {
		if b == 46 {
			labels = append(labels, "")
		} else {
			labels[len(labels)-1] += string([]byte{b})
		}
	}
	return labels
}

// oddTexts are what Labels may be given, hosts or not.
func oddTexts() []string {
	list := []string{
		"", ".", "..", "...", "a", "a.", ".a", "a.b", "a..b", ".a.", "..a", "a..", "mx.a", "x.mx.a", "*.a", "*", "A.B", " . ", "\n.\n", "a b.c d", "\x00", "\x00.\x00", "-.-", "a:b/c,d;e",
		"é", "é.é", ".é.", "日.本", "\u3002", "a\u3002b", "\u2024", "\uff0e", "\u012e", "\u2e2e.\u2e2e", "\U0001f4ee.a", "\ufffd.\ufffd", "\ufeffa.b",
		"\xff", "\xff.\xff", "\x80.\x80", "\xc3.\xa9", "\xe6.\x97\xa5", "\xe6\x97.\xa5", "\xf0.\x9f", "\xf0\x9f\x93.", "\xae.\xae", "\xc0\xae", "\xe0\x80\xae.a", "\xed\xa0\x80.a", "a.\xc3", "\xc3..\xa9",
		strings.Repeat("x", 1000), strings.Repeat(".", 1000), strings.Repeat("é.", 500), strings.Repeat("\xff.", 500),
	}
	return slices.Concat(list, goodPatterns(), badPatterns())
}

func TestLabelsByTable(t *testing.T) {
	for s, want := range map[string][]string{
		"": {""}, ".": {"", ""}, "..": {"", "", ""}, "a": {"a"}, "abc": {"abc"}, "mx.a": {"mx", "a"}, "x.mx.a": {"x", "mx", "a"}, "b.a.c.a": {"b", "a", "c", "a"},
		".a": {"", "a"}, "a.": {"a", ""}, ".a.": {"", "a", ""}, "a..b": {"a", "", "b"}, "..a": {"", "", "a"}, "a..": {"a", "", ""}, "a...b": {"a", "", "", "b"},
		"*.a": {"*", "a"}, "A b.-": {"A b", "-"}, "\x00.\n": {"\x00", "\n"}, "é.è": {"é", "è"}, "\xff.\x80.": {"\xff", "\x80", ""}, "\xc3.\xa9": {"\xc3", "\xa9"}, "\xe6\x97.\xa5": {"\xe6\x97", "\xa5"},
		"a\u3002b": {"a\u3002b"}, "\u2024.\uff0e": {"\u2024", "\uff0e"}, "\xc0\xae": {"\xc0\xae"}, "a,b": {"a,b"},
	} {
		if got := impl.Labels(s); !slices.Equal(got, want) {
			t.Errorf("%q %q", s, got)
		}
	}
}

func TestLabelsByWord(t *testing.T) {
	texts := append(oddTexts(), textsOf("a.\xc3\xa9", 6)...)
	for _, s := range texts {
		got := impl.Labels(s)
		if !slices.Equal(got, labelsByWord(s)) {
			t.Fatalf("%q %q", s, got)
		}
		if strings.Join(got, ".") != s || len(got) != strings.Count(s, ".")+1 {
			t.Fatalf("put together again: %q %q", s, got)
		}
	}
}

func TestLabelsByteByByte(t *testing.T) {
	for n := range 256 {
		for m := range 256 {
			a, b := string([]byte{byte(n)}), string([]byte{byte(m)})
			if s := a + "." + b; !slices.Equal(impl.Labels(s), labelsByWord(s)) {
				t.Fatalf("%q %q", s, impl.Labels(s))
			}
			if s := "x" + a + b + "y"; !slices.Equal(impl.Labels(s), labelsByWord(s)) {
				t.Fatalf("%q %q", s, impl.Labels(s))
			}
		}
	}
}

func TestLabelsOfManyBytes(t *testing.T) {
	dots := strings.Repeat(".", 1000000)
	if got := impl.Labels(dots); len(got) != 1000001 || slices.ContainsFunc(got, func(s string) bool { return s != "" }) {
		t.Error("dots", len(got))
	}
	long := strings.Repeat("x", 1000000)
	if got := impl.Labels(long + "." + long); !slices.Equal(got, []string{long, long}) {
		t.Error("long labels", len(got))
	}
}

// overwrite writes into all of list and into the spare room behind it.
func overwrite(list []string) {
	whole := list[:cap(list)]
	for i := range whole {
		whole[i] = "overwritten"
	}
}

func TestLabelsAreNewMemory(t *testing.T) {
	for _, s := range oddTexts() {
		one, two := impl.Labels(s), impl.Labels(s)
		overwrite(one)
		if !slices.Equal(two, labelsByWord(s)) {
			t.Errorf("two answers share memory: %q", s)
		}
		if again := impl.Labels(s); !slices.Equal(again, labelsByWord(s)) {
			t.Errorf("what is done with an answer is seen in the next one: %q", s)
		}
		for _, label := range two {
			if label != "" && liesWithin(label, s) {
				t.Errorf("a label shares memory with the argument: %q", s)
			}
		}
	}
}

// liesWithin tells whether the first byte of a label is in the memory of s.
func liesWithin(label, s string) bool {
	at, start := uintptr(unsafe.Pointer(unsafe.StringData(label))), uintptr(unsafe.Pointer(unsafe.StringData(s)))
	return at >= start && at < start+uintptr(len(s))
}

// What is asked first, and what was asked before, is nothing to an answer.
func TestHostsAnswerAgain(t *testing.T) {
	texts := append(oddTexts(), goodHosts()...)
	ask := func(s string) [4]bool {
		return [4]bool{impl.HostOk(s), impl.PatternOk(s), impl.Fits(s, "mx.a"), impl.Fits("*.a", s)}
	}
	var first [][4]bool
	for _, s := range texts {
		first = append(first, ask(s))
	}
	for i, s := range slices.Backward(texts) {
		overwrite(impl.Labels(s))
		if again := ask(s); again != first[i] || again != ask(s) {
			t.Errorf("%q %v %v", s, first[i], again)
		}
	}
}
