package tests

import (
	"slices"
	"strings"
	"testing"

	"loop.example/g00328/impl"
)

// sixtyBytes are labels as many as a host may have, the last one not full.
const sixtyBytes = "abcdefghij.abcdefghij.abcdefghij.abcdefghij.abcdefghij.klmno"

// starPatterns are PatternOk and begin with a star, no two the same.
func starPatterns() []string {
	var list []string
	for _, rest := range append(goodHosts(), "a", "z", "0", "9", "mx", "a-b", "a--b", "a0", tenBytes, "0123456789", "a--------b") {
		list = append(list, "*."+rest)
	}
	return list
}

func goodPatterns() []string { return append(goodHosts(), starPatterns()...) }

// badPatterns are not PatternOk.
func badPatterns() []string {
	list := []string{
		"*", "**", "*.", "*..", "*...", "**.", "*.*", "*.*.", "*.*.a", "*.*.a.b", "*.*.*.a", "**.a", "**.a.b", "*a", "a*", "*a.b", "a*.b", "a*b.c", "*-.a", "-*.a", "x*.a.b", "*x.a.b", "*.a*", "*.*a", "*.a*b", "*.a.*", "*.a.*.b", "*.a.b*",
		"a.*", "a.*.b", "mx.*", "mx.a*", "mx.*a", "mx.*.a", "a.b.*", "mx.a.*.b", ".*.a", "..*.a", " *.a", "* .a", "*. a", "*.a ", "*.a\n", "*\n.a", "\x00*.a", "*\x00.a", "*.\x00", "*.a\x00", "*,a", "*/a", "*-a", "*-.a", "*.a,b",
		"*.A", "*.aB", "*.a.B", "*.é", "*.a.é", "é*.a", "*é.a", "*.\xff", "*.a.\x80", "\u2217.a", "\uff0a.a", "*\u3002a", "*\u2024a", "*\uff0ea", "*.\uff41", "?.a", "?", "+.a", "%.a", ")a", "(.a",
		"*." + tenBytes + "k", "*.a." + tenBytes + "k", "*." + tenBytes + "k.a", "*." + strings.Repeat("x", 60), "*." + strings.Repeat("x", 61),
		"*." + sixtyBytes + "p", "*." + strings.Repeat("a.", 30) + "a", "*." + strings.Repeat("a.", 1000) + "a", "*." + strings.Repeat("a.", 30), strings.Repeat("*.", 30) + "a", strings.Repeat("*.", 1000),
		sixtyBytes + "p", "*" + sixtyBytes, "*" + sixtyBytes[1:],
	}
	for _, s := range badHosts() {
		if !slices.Contains([]string{"*.a", "*.a.b"}, s) {
			list = append(list, s)
		}
		if !labelByWord(s) {
			list = append(list, "*."+s)
		}
	}
	return list
}

// labelByWord is what the document says of one label, told apart from the program.
func labelByWord(s string) bool { return !strings.Contains(s, ".") && hostByWord(s+".a") }

// patternByWord is what the document says of PatternOk, likewise.
func patternByWord(s string) bool {
	if !strings.HasPrefix(s, "*.") {
		return hostByWord(s)
	}
	return labelByWord(s[2:]) || hostByWord(s[2:])
}

// textsOf are all texts of these bytes, up to that length.
func textsOf(bytes string, length int) []string {
	list := []string{""}
	for from := 0; length > 0; length-- {
		longest := list[from:]
		from = len(list)
		for _, s := range longest {
			for _, b := range []byte(bytes) {
				list = append(list, s+string([]byte{b}))
			}
		}
	}
	return list
}

func TestPatternOkOfGoodAndBad(t *testing.T) {
	for _, s := range goodPatterns() {
		if !impl.PatternOk(s) {
			t.Errorf("not ok: %q", s)
		}
	}
	for _, s := range badPatterns() {
		if impl.PatternOk(s) {
			t.Errorf("ok: %q", s)
		}
	}
}

func TestPatternOkBehindAStar(t *testing.T) {
	for _, s := range goodPatterns() {
		star := strings.HasPrefix(s, "*.")
		if got := impl.PatternOk("*." + s); got == star {
			t.Errorf("a star ahead of %q: %v", s, got)
		}
		for _, ahead := range []string{"*", ".", "*..", "**.", "a*.", "*a.", "*.*."} {
			if impl.PatternOk(ahead + s) {
				t.Errorf("ok: %q", ahead+s)
			}
		}
		if impl.PatternOk(s+".*") || impl.PatternOk(s+"*") || impl.PatternOk(s+".") {
			t.Errorf("ok with something behind: %q", s)
		}
	}
}

func TestPatternOkByLength(t *testing.T) {
	if len(sixtyBytes) != 60 || !impl.PatternOk(sixtyBytes) || !impl.PatternOk("*."+sixtyBytes) {
		t.Error("sixty bytes")
	}
	for n := range 80 {
		labels := strings.Repeat("abc.", n/4) + "abcd"[:n%4]
		most := n <= 60 && n%4 != 0
		if got := impl.PatternOk("*." + labels); got != most {
			t.Error("behind a star", n, labels, got)
		}
		if got := impl.PatternOk(labels); got != (most && n >= 5) {
			t.Error("without a star", n, labels, got)
		}
		one := strings.Repeat("x", n)
		want := n >= 1 && n <= 10
		for _, s := range []string{"*." + one, "*." + one + ".a", "*.a." + one, "*.a." + one + ".b", "a." + one, one + ".a"} {
			if got := impl.PatternOk(s); got != want {
				t.Error("a label of", n, s, got)
			}
		}
		if impl.PatternOk(one) {
			t.Error("one label without a star", n)
		}
	}
}

func TestPatternOkByteByByte(t *testing.T) {
	for n := range 256 {
		b := string([]byte{byte(n)})
		inside := n >= 'a' && n <= 'z' || n >= '0' && n <= '9'
		between := inside || n == '-' || n == '.'
		for s, want := range map[string]bool{
			b: false, b + ".a": inside || n == '*', b + ".a.b": inside || n == '*', "*" + b + "a": n == '.', "*" + b + "a.b": n == '.', "*" + b: false, b + "*.a": false, "*" + b + ".a": false,
			"*." + b: inside, "*." + b + "a": inside, "*.a" + b: inside, "*.a" + b + "a": between, "*." + b + ".a": inside, "*.a." + b: inside, "*.a." + b + "a": inside, "*.a.a" + b: inside,
			"a." + b: inside, "a." + b + ".c": inside, "a" + b + "a.a": between, "a" + b + "a": n == '.',
		} {
			if got := impl.PatternOk(s); got != want {
				t.Errorf("%q %v", s, got)
			}
		}
	}
}

func TestPatternOkByWord(t *testing.T) {
	good := 0
	for _, s := range textsOf("a0-.*A", 7) {
		want := patternByWord(s)
		if got := impl.PatternOk(s); got != want {
			t.Fatalf("%q %v", s, got)
		}
		if want && s[0] == '*' {
			good++
		}
	}
	if good < 200 {
		t.Error("the texts ask for too little:", good)
	}
}
