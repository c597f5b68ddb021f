package tests

import (
	"strings"
	"testing"

	"loop.example/g00328/impl"
)

// fitsByWord is what the document says of Fits, label by label and told apart
// from the program.
func fitsByWord(pattern, host string) bool {
	if !patternByWord(pattern) || !hostByWord(host) {
		return false
	}
	asked, had := strings.Split(pattern, "."), strings.Split(host, ".")
	if len(asked) != len(had) {
		return false
	}
	for i := range asked {
		if asked[i] != had[i] && (i > 0 || asked[i] != "*") {
			return false
		}
	}
	return true
}

func TestFitsItself(t *testing.T) {
	for _, host := range goodHosts() {
		for _, other := range goodHosts() {
			if got := impl.Fits(host, other); got != (host == other) {
				t.Error(host, other, got)
			}
		}
	}
}

func TestFitsByAStar(t *testing.T) {
	for _, host := range goodHosts() {
		first, rest, _ := strings.Cut(host, ".")
		if !impl.Fits("*."+rest, host) {
			t.Error("its own star:", host)
		}
		for _, label := range []string{"a", "9", "x-y", "x--y", tenBytes} {
			other := label + "." + rest
			if got := impl.Fits("*."+rest, other); got != (len(other) <= 60) {
				t.Error(host, other, got)
			}
		}
		if impl.Fits("*."+host, host) {
			t.Error("no label ahead of the rest:", host)
		}
		if impl.Fits("*."+rest, rest) {
			t.Error("no label ahead of the rest:", rest)
		}
		for _, wrong := range []string{"", ".", "-" + first + ".", first + "-.", first + "A.", "*.", first + "..", "é.", "\xff.", tenBytes + "k.", first + ".\n"} {
			if impl.Fits("*."+rest, wrong+rest) {
				t.Errorf("no label ahead of the rest: %q", wrong+rest)
			}
		}
	}
}

// No pattern stands for two labels, whatever they are.
func TestFitsNoTwoLabels(t *testing.T) {
	for _, rest := range append(goodHosts(), "a", "mx", tenBytes) {
		for _, two := range []string{"x.y.", "x.x.", "a.a.", "mx.mx.", "x." + tenBytes + ".", "x.y.z.", "a.a.a.a."} {
			if impl.Fits("*."+rest, two+rest) {
				t.Error("two labels ahead of", rest, two)
			}
			_, one, _ := strings.Cut(two, ".")
			host := two + rest
			if got := impl.Fits("*."+one+rest, host); got != (len(host) <= 60) {
				t.Error("one label ahead of", one+rest, got)
			}
		}
	}
	for _, host := range goodHosts() {
		labels := strings.Split(host, ".")
		for n := range labels {
			pattern := "*." + strings.Join(labels[n:], ".")
			if got := impl.Fits(pattern, host); got != (n == 1) {
				t.Error(pattern, host, got)
			}
		}
	}
}

func TestFitsByTable(t *testing.T) {
	for _, c := range []struct {
		pattern, host string
		want          bool
	}{
		{"mx.a", "mx.a", true}, {"mx.a", "m2.a", false}, {"mx.a", "mx.b", false}, {"mx.a", "x.mx.a", false}, {"x.mx.a", "mx.a", false}, {"mx.a", "mx.a.b", false}, {"mx.a", "mx.aa", false}, {"mx.a", "mmx.a", false},
		{"*.a", "mx.a", true}, {"*.a", "a.a", true}, {"*.a", "a-b.a", true}, {"*.a", "x.mx.a", false}, {"*.mx.a", "x.mx.a", true}, {"*.mx.a", "mx.a", false}, {"*.mx.a", "x.m2.a", false}, {"*.mx.a", "x.y.mx.a", false}, {"*.a.a", "a.a", false}, {"*.a.a", "a.a.a", true}, {"*.a.a", "a.a.a.a", false},
		{"*.a", "mx.b", false}, {"*.a", "a.b", false}, {"*.a", "mx.ba", false}, {"*.a", "mx.ab", false}, {"*.a", "mx.a.b", false}, {"*.ab", "x.cab", false}, {"*.b.c", "ab.c", false}, {"*.b.c", "a.ab.c", false}, {"*.a", "xa.a.b", false}, {"*.a", "x-a.b", false},
		{"*.a", "a", false}, {"*.a", ".a", false}, {"*.a", "x.a.", false}, {"*.a", "x..a", false}, {"*.a", "X.a", false}, {"*.a", "-x.a", false}, {"*.a", "x-.a", false}, {"*.a", "", false}, {"*.a", "*.a", false}, {"*.a", "*", false}, {"*.a", "é.a", false}, {"*.a", "x y.a", false}, {"*.a", "\x00.a", false},
		{"mx.a", "*.a", false}, {"mx.a", "*.mx.a", false}, {"*.mx.a", "*.mx.a", false}, {"*.mx.a", "*.a", false}, {"*.a", "*.mx.a", false},
		{"*", "mx.a", false}, {"*", "a", false}, {"*.", "mx.a", false}, {"*.", "mx.", false}, {"*.*", "mx.a", false}, {"*.*.a", "x.mx.a", false}, {"**.a", "mx.a", false}, {"m*.a", "mx.a", false}, {"*x.a", "mx.a", false}, {"mx.*", "mx.a", false}, {"x.*.a", "x.mx.a", false}, {".a", "mx.a", false}, {"a", "mx.a", false}, {"?.a", "x.a", false}, {"", "mx.a", false}, {"*.A", "mx.A", false}, {"*.A", "mx.a", false}, {"MX.a", "mx.a", false}, {"*.a.", "mx.a.", false}, {"*..a", "mx..a", false}, {"*a", "mx.a", false}, {"*.a\n", "mx.a", false},
		{"", "", false}, {"a", "a", false}, {"?", "?", false}, {"*", "*", false}, {".", ".", false}, {"A.b", "A.b", false}, {"a.", "a.", false},
	} {
		if got := impl.Fits(c.pattern, c.host); got != c.want {
			t.Errorf("%q %q %v", c.pattern, c.host, got)
		}
	}
}

func TestFitsOfWhatIsNone(t *testing.T) {
	for _, host := range append(badHosts(), starPatterns()...) {
		if impl.Fits(host, host) {
			t.Errorf("no host, yet it fits itself: %q", host)
		}
		if _, rest, _ := strings.Cut(host, "."); impl.Fits("*."+rest, host) || impl.Fits("mx.a", host) {
			t.Errorf("no host, yet it fits: %q", host)
		}
	}
	for _, pattern := range badPatterns() {
		if impl.Fits(pattern, pattern) {
			t.Errorf("no pattern, yet it fits itself: %q", pattern)
		}
		for _, host := range goodHosts() {
			if impl.Fits(pattern, host) {
				t.Errorf("no pattern, yet it fits: %q %q", pattern, host)
			}
		}
	}
}

// A host has 60 bytes with its first label, a pattern behind its star.
func TestFitsByLength(t *testing.T) {
	for n := range 4 {
		rest := sixtyBytes[:57+n]
		if !impl.PatternOk("*." + rest) {
			t.Fatal(rest)
		}
		if got := impl.Fits("*."+rest, "x."+rest); got != (n <= 1) {
			t.Error(len(rest), got)
		}
		if got := impl.Fits("*."+rest, "xy."+rest); got != (n == 0) {
			t.Error(len(rest), got)
		}
		if !impl.Fits(rest, rest) || impl.Fits(rest+"pqrs", rest+"pqrs") || impl.Fits("*."+rest, rest) {
			t.Error("itself", len(rest))
		}
	}
}

func TestFitsByWord(t *testing.T) {
	texts := textsOf("a0.*", 5)
	stars, same := 0, 0
	for _, pattern := range texts {
		for _, host := range texts {
			want := fitsByWord(pattern, host)
			if got := impl.Fits(pattern, host); got != want {
				t.Fatalf("%q %q %v", pattern, host, got)
			}
			if want && pattern == host {
				same++
			} else if want {
				stars++
			}
		}
	}
	if stars < 60 || same < 30 {
		t.Error("the texts ask for too little:", stars, same)
	}
}

func TestFitsOfAllGoodPatterns(t *testing.T) {
	fit := 0
	for _, pattern := range append(goodPatterns(), badPatterns()...) {
		for _, host := range append(goodHosts(), badHosts()...) {
			want := fitsByWord(pattern, host)
			if got := impl.Fits(pattern, host); got != want {
				t.Errorf("%q %q %v", pattern, host, got)
			}
			if want {
				fit++
			}
		}
	}
	if fit < len(goodHosts()) {
		t.Error("the texts ask for too little:", fit)
	}
}
