package tests

import (
	"strings"
	"testing"

	"loop.example/g00328/impl"
)

const tenBytes = "abcdefghij"

// goodHosts are HostOk, at each edge that the document names, no two the same.
func goodHosts() []string {
	return []string{
		"mx.a", "m2.a", "mx.b", "a.b", "b.a", "z.z", "0.9", "1.2.3", "a.b.c", "a.a.a", "mx.a.mx", "a0.0a", "9z.z9",
		"a-b.c", "a--b.c", "a.b-c", "0-0.a-9-z", "a--------b.c", "x.a--------b",
		tenBytes + ".a", "a." + tenBytes, tenBytes + "." + tenBytes, "0123456789.a",
		strings.Repeat("a.", 29) + "a", strings.Repeat("a.", 29) + "ab",
		strings.Repeat(tenBytes+".", 5) + "klmn", strings.Repeat(tenBytes+".", 5) + "klmno",
	}
}

// badHosts are not HostOk, no two the same.
func badHosts() []string {
	list := []string{
		"", ".", "..", "...", "a", "ab", tenBytes, "0", "-", ".a", "a.", ".a.b", "a.b.", "a..b", "a.b..c", "..a.b", "a.b..",
		tenBytes + "k.a", "a." + tenBytes + "k", "a.b." + tenBytes + "k", tenBytes + "klmnopqrst.a", "0123456789a.b", strings.Repeat("x", 59) + ".", strings.Repeat("y", 60),
		"-a.b", "a-.b", "a.-b", "a.b-", "-.a", "a.-", "a.-.b", "--.a", "a.b.-c", "a.b.c-", "-a-.b", "a--.b", "a.--b",
		"a.B", "A.b", "mX.a", "Z.a", "a.bcD", "*.a", "*", "*.a.b", "a.*", "a*.b", "?.a", "_.a", "a_b.c", "a b.c", " a.b", "a.b ", "a.b\n", "\x00.a", "a.\x00", "a.b\x00", "a/b.c", "a:b.c", "a`.b", "a{.b", "a@.b", "a[.b", "a,b", "a;b.c",
		"é.a", "a.é", "a.bé", "а.b", "\xff.a", "a.\x80", "a.b\xc3", "a\u3002b", "a\u2024b", "a.\u0661", "a.\uff41", "\u017f.a", "\u212a.a", "a\u2010b.c", "a.\ufffd",
		strings.Repeat("a.", 30) + "a", strings.Repeat("a.", 30), strings.Repeat("a.", 1000) + "a",
		strings.Repeat(tenBytes+".", 5) + "klmnop", strings.Repeat(tenBytes+".", 5) + "klmno.", strings.Repeat(tenBytes+".", 6), strings.Repeat(tenBytes+".", 6) + "a",
	}
	return append(list, strings.Repeat("x", 10000))
}

func TestHostOkOfGoodAndBad(t *testing.T) {
	for _, s := range goodHosts() {
		if !impl.HostOk(s) {
			t.Errorf("not ok: %q", s)
		}
	}
	for _, s := range badHosts() {
		if impl.HostOk(s) {
			t.Errorf("ok: %q", s)
		}
	}
}

func TestHostOkByLength(t *testing.T) {
	lengths := map[int]bool{}
	for _, s := range append(goodHosts(), badHosts()...) {
		lengths[len(s)] = true
	}
	for _, n := range []int{0, 1, 2, 3, 59, 60, 61} {
		if !lengths[n] {
			t.Error("no host of", n, "bytes is asked for")
		}
	}
	for n := range 80 {
		labels := strings.Repeat("abc.", n/4) + "abcd"[:n%4]
		want := n >= 5 && n <= 60 && n%4 != 0
		if got := impl.HostOk(labels); got != want {
			t.Error(n, labels, got)
		}
		one := strings.Repeat("x", n)
		if got := impl.HostOk("a." + one); got != (n >= 1 && n <= 10) || impl.HostOk(one+".a") != got || impl.HostOk("b."+one+".a") != got {
			t.Error("a label of", n, got)
		}
	}
}

func TestHostOkByteByByte(t *testing.T) {
	for n := range 256 {
		b := string([]byte{byte(n)})
		inside := n >= 'a' && n <= 'z' || n >= '0' && n <= '9'
		for s, want := range map[string]bool{
			b + ".a": inside, "a." + b: inside, b + "a.a": inside, "a.a" + b: inside, "a" + b + ".a": inside, "a." + b + "a": inside,
			"a" + b + "a.a": inside || n == '-' || n == '.', "a.a" + b + "a": inside || n == '-' || n == '.', "a" + b + "a": n == '.',
		} {
			if got := impl.HostOk(s); got != want {
				t.Errorf("%q %v", s, got)
			}
		}
	}
}

// hostByWord is what the document says of HostOk, told apart from the program.
func hostByWord(s string) bool {
	labels := strings.Split(s, ".")
	for _, label := range labels {
		if label == "" || len(label) > 10 || strings.Trim(label, "-") != label || strings.Trim(label, "abcdefghijklmnopqrstuvwxyz0123456789-") != "" {
			return false
		}
	}
	return len(labels) > 1 && len(s) <= 60
}

func TestHostOkByWord(t *testing.T) {
	bytes, good := "a0-.-.zA", 0
	for length := range 7 {
		all := 1
		for range length {
			all *= len(bytes)
		}
		for n := range all {
			s := make([]byte, length)
			for i := range s {
				s[i] = bytes[n%len(bytes)]
				n /= len(bytes)
			}
			want := hostByWord(string(s))
			if got := impl.HostOk(string(s)); got != want {
				t.Fatalf("%q %v", s, got)
			}
			if want {
				good++
			}
		}
	}
	if good < 1000 {
		t.Error("the texts ask for too little:", good)
	}
}
