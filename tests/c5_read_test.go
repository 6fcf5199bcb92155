package tests

import (
	"slices"
	"strings"
	"testing"

	"loop.example/settinglayers/impl"
)

func TestLimitsOfTyped(t *testing.T) {
	if impl.MaxInt != 999999 || impl.MaxSize != 9000000000 || impl.MaxTime != 9999999 || impl.MaxItems != 8 {
		t.Error("limits are not those of the document")
	}
	if impl.TyText != 0 || impl.TyBool != 1 || impl.TyInt != 2 || impl.TySize != 3 || impl.TyTime != 4 || impl.TyList != 5 {
		t.Error("kinds of values are not those of the document")
	}
}

func TestValidTyped(t *testing.T) {
	v40 := strings.Repeat("v", 40)
	for _, x := range []impl.Typed{
		{}, {Text: "x"}, {Text: v40}, {Text: "a,,b , c"}, {Text: "x", Items: []string{}}, typedNumber(impl.TyBool, 0), typedNumber(impl.TyBool, 1), {Kind: impl.TyBool, Items: []string{}},
		typedNumber(impl.TyInt, 0), typedNumber(impl.TyInt, 999999), typedNumber(impl.TyInt, -999999), typedNumber(impl.TySize, 0), typedNumber(impl.TySize, 9000000000), typedNumber(impl.TyTime, 0), typedNumber(impl.TyTime, 9999999),
		typedList(), {Kind: impl.TyList, Items: []string{}}, typedList("a"), typedList("a", "a"), typedList("a b", "~!"), typedList("a", "b", "c", "d", "e", "f", "g", "h"), typedList(v40), typedList(v40[:20], v40[:19]), typedList(strings.Split("abcd,abcd,abcd,abcd,abcd,abcd,abcd,abcde", ",")...),
	} {
		if !impl.ValidTyped(x) {
			t.Errorf("ValidTyped(%+v) = false", x)
		}
	}
	for _, x := range badTyped() {
		if impl.ValidTyped(x) {
			t.Errorf("ValidTyped(%+v) = true", x)
		}
	}
	for _, x := range someTyped() {
		if !impl.ValidTyped(x) || !wantTyped(x) {
			t.Errorf("ValidTyped(%+v) = %v, not %v", x, impl.ValidTyped(x), wantTyped(x))
		}
	}
}

func TestTypedThatAreNotValid(t *testing.T) {
	good := []impl.Typed{{Text: "x"}, typedNumber(impl.TyBool, 1), typedNumber(impl.TyInt, 1), typedNumber(impl.TySize, 1), typedNumber(impl.TyTime, 1), typedList("a"), typedList()}
	for _, x := range badTyped() {
		if got := impl.TypedText(x); got != "" {
			t.Errorf("TypedText(%+v) = %q", x, got)
		}
		for _, y := range append(good, x) {
			if impl.CompareTyped(x, y) != 2 || impl.CompareTyped(y, x) != 2 {
				t.Errorf("CompareTyped of %+v and %+v = %d", x, y, impl.CompareTyped(x, y))
			}
			got, ok := impl.AddTyped(x, y)
			checkTyped(t, "AddTyped", got, ok, impl.Typed{}, false)
			got, ok = impl.AddTyped(y, x)
			checkTyped(t, "AddTyped", got, ok, impl.Typed{}, false)
		}
		for kind := -1; kind < 7; kind++ {
			got, ok := impl.ConvertTyped(x, kind)
			checkTyped(t, "ConvertTyped", got, ok, impl.Typed{}, false)
		}
		for _, b := range [][2]int{{0, 1}, {-1 << 63, 1<<63 - 1}, {1, 0}, {x.Int, x.Int}} {
			if impl.InBounds(x, b[0], b[1]) {
				t.Errorf("InBounds(%+v, %v)", x, b)
			}
			got, ok := impl.ClampTyped(x, b[0], b[1])
			checkTyped(t, "ClampTyped", got, ok, impl.Typed{}, false)
		}
		for _, item := range append(slices.Clone(x.Items[:min(2, len(x.Items))]), "a", "new", "") {
			got, ok := impl.ListPut(x, item)
			checkTyped(t, "ListPut", got, ok, impl.Typed{}, false)
			got, ok = impl.ListCut(x, item)
			checkTyped(t, "ListCut", got, ok, impl.Typed{}, false)
		}
		if t.Failed() {
			t.Fatalf("with %+v", x)
		}
	}
}

func TestReadTypedOfBools(t *testing.T) {
	for text, n := range map[string]int{"yes": 1, "on": 1, "true": 1, "no": 0, "off": 0, "false": 0} {
		got, ok := impl.ReadTyped(impl.TyBool, text)
		checkTyped(t, "ReadTyped "+text, got, ok, typedNumber(impl.TyBool, n), true)
	}
	for _, text := range []string{"", "Yes", "YES", "On", "True", "No", "Off", "False", "y", "n", "t", "f", "1", "0", "yes no", "yesno", "yes,", "o", "of", "offf", " yes", "yes ", "no\n"} {
		checkUnread(t, impl.TyBool, text)
	}
}

func TestReadTypedOfInts(t *testing.T) {
	for text, n := range map[string]int{"0": 0, "1": 1, "-1": -1, "10": 10, "-10": -10, "100": 100, "7": 7, "-900": -900, "999999": 999999, "-999999": -999999, "123456": 123456} {
		got, ok := impl.ReadTyped(impl.TyInt, text)
		checkTyped(t, "ReadTyped "+text, got, ok, typedNumber(impl.TyInt, n), true)
	}
	for _, text := range []string{
		"", "-", "-0", "00", "01", "-01", "007", "+0", "+1", "--1", "1-", "- 1", " 1", "1 ", "1 0", "1,0", "1_0", "1.0", "1e1", "0x1", "0b1", "0o1", "1k", "1s", "a", "A", "yes",
		"1000000", "-1000000", "9000000000", "9223372036854775807", "9223372036854775808", "18446744073709551616", "18446744073709551617", "-18446744073709551617", strings.Repeat("9", 40), "-" + strings.Repeat("9", 39), "0" + strings.Repeat("0", 39), "٣",
	} {
		checkUnread(t, impl.TyInt, text)
	}
}

func TestReadTypedOfSizes(t *testing.T) {
	for text, n := range map[string]int{
		"0": 0, "0k": 0, "0m": 0, "0g": 0, "1": 1, "999": 999, "1000": 1000, "1k": 1000, "10k": 10000, "1500": 1500, "1m": 1000000, "1000k": 1000000, "1000000": 1000000, "1g": 1000000000, "1000m": 1000000000, "1000000k": 1000000000,
		"9g": 9000000000, "9000m": 9000000000, "9000000k": 9000000000, "9000000000": 9000000000, "8999999999": 8999999999, "8999999k": 8999999000, "8999m": 8999000000,
	} {
		got, ok := impl.ReadTyped(impl.TySize, text)
		checkTyped(t, "ReadTyped "+text, got, ok, typedNumber(impl.TySize, n), true)
	}
	for _, text := range []string{
		"", "k", "m", "g", "-1", "-0", "-1k", "-0k", "00", "00k", "01", "01k", "010g", "+1", "+1k", "1kk", "1km", "1gk", "k1", "1k1", "1 k", "1k ", "1K", "1M", "1G", "1b", "1kb", "1d", "1s", "1t", "1.5k", "1,5k", "1_0k", "0x1k", "1e3",
		"10g", "9001m", "9000001k", "9000000001", "9999999999", "9000000000k", "9000000001g", "9223372037g", "18446744074g", "9223372036854775808", "18446744073709551616", "18446744073709551617k", strings.Repeat("9", 39) + "g", strings.Repeat("0", 39) + "k",
	} {
		checkUnread(t, impl.TySize, text)
	}
}

func TestReadTypedOfTimes(t *testing.T) {
	for text, n := range map[string]int{
		"0s": 0, "0m": 0, "0h": 0, "0d": 0, "0d0h0m0s": 0, "0d0s": 0, "1s": 1, "1m": 60, "1h": 3600, "1d": 86400, "1d1h1m1s": 90061, "1d1s": 86401, "1h1s": 3601, "1d1m": 86460, "1m1s": 61, "1d1h": 90000, "1h1m": 3660,
		"90s": 90, "90m": 5400, "25h": 90000, "10d": 864000, "1d25h61m61s": 180121, "0d5s": 5, "5d0s": 432000, "100h100m": 366000, "3600s": 3600,
		"9999999s": 9999999, "166666m39s": 9999999, "2777h46m39s": 9999999, "115d17h46m39s": 9999999, "115d": 9936000, "2777h": 9997200, "166666m": 9999960, "0d9999999s": 9999999,
	} {
		got, ok := impl.ReadTyped(impl.TyTime, text)
		checkTyped(t, "ReadTyped "+text, got, ok, typedNumber(impl.TyTime, n), true)
	}
	for _, text := range []string{
		"", "0", "1", "5", "d", "s", "dhms", "-1s", "-0s", "1d-1h", "+1s", "00s", "01s", "1h01m", "01h1m", "1d00h", "1h00s", "1m1h", "1s1m", "1s1d", "1h1d", "1m1d", "1s1h", "1d1m1h", "1h1d1m", "1h1h", "1d1d", "1s1s", "1m1m", "1d1h1d", "0s0s", "0m0h", "1d1", "1h1", "11", "1h1m1",
		"d1", "1dd", "1hs", "1 s", "1h 1m", "1h,1m", "1h:1m", "1D", "1H", "1M", "1S", "1k", "1w", "1ms", "1.5h", "1_0s", "0x1s", "1s ", " 1s",
		"10000000s", "166667m", "166666m40s", "2778h", "116d", "115d17h46m40s", "115d18h", "9000000000d", "9000000001s", "106751991167301d", "213503982334602d", "18446744073709551616s", "18446744073709551617s", "213503982334601d7h15s", strings.Repeat("9", 39) + "s", strings.Repeat("0", 39) + "s",
	} {
		checkUnread(t, impl.TyTime, text)
	}
}

func TestReadTypedOfLists(t *testing.T) {
	v40 := strings.Repeat("v", 40)
	for text, items := range map[string][]string{
		"": nil, "a": {"a"}, "a,b": {"a", "b"}, "b,a,b": {"b", "a", "b"}, "a , b,c d": {"a", "b", "c d"}, "a   ,   b": {"a", "b"}, "a  b": {"a  b"}, "1,2": {"1", "2"}, "-0,007": {"-0", "007"}, "a;b": {"a;b"}, "~,!": {"~", "!"},
		"a,b,c,d,e,f,g,h": {"a", "b", "c", "d", "e", "f", "g", "h"}, "a,a,a,a,a,a,a,a": {"a", "a", "a", "a", "a", "a", "a", "a"}, v40: {v40}, v40[:20] + "," + v40[:19]: {v40[:20], v40[:19]}, "a" + strings.Repeat(" ", 37) + ",b": {"a", "b"},
	} {
		got, ok := impl.ReadTyped(impl.TyList, text)
		checkTyped(t, "ReadTyped "+text, got, ok, typedList(items...), true)
	}
	for _, text := range []string{",", ",,", "a,", ",a", "a,,b", "a, ,b", "a,   ,b", "a,b,", ", a", "a ,", "a,b,c,d,e,f,g,h,i", "a,b,c,d,e,f,g,h,", ",a,b,c,d,e,f,g", "1,2,3,4,5,6,7,8,9,0", " ", " a", "a ", "a, ", v40 + "v", v40[:20] + "," + v40[:20], "a\t,b", "a,é", "a\n,b", "a,b\n"} {
		checkUnread(t, impl.TyList, text)
	}
}

func TestReadTypedOfTexts(t *testing.T) {
	v40 := strings.Repeat("v", 40)
	for _, text := range []string{"", "a", "yes", "-0", "007", "1m", "a , b", "a,,b", ",", "a   b", "~!#$%{}", v40} {
		got, ok := impl.ReadTyped(impl.TyText, text)
		checkTyped(t, "ReadTyped "+text, got, ok, impl.Typed{Text: text}, true)
	}
	for _, text := range []string{" ", " a", "a ", "a\n", "\ta", "é", "a\x7f", "\x00", "\xff", v40 + "v", strings.Repeat("v", 1000)} {
		for kind := range 6 {
			checkUnread(t, kind, text)
		}
		if got := impl.KindsOf(text); got != nil {
			t.Errorf("KindsOf(%q) = %v", text, got)
		}
	}
	for _, kind := range []int{-1, 6, 7, 1 << 40, 1<<63 - 1, -1 << 63} {
		for _, text := range []string{"", "a", "1", "yes", "1m", "a,b"} {
			checkUnread(t, kind, text)
		}
	}
}

// checkUnread checks that a text has no value of a kind.
func checkUnread(t *testing.T, kind int, text string) {
	t.Helper()
	got, ok := impl.ReadTyped(kind, text)
	checkTyped(t, "ReadTyped "+text, got, ok, impl.Typed{}, false)
	canon, ok := impl.CanonText(kind, text)
	checkFound(t, "CanonText "+text, canon, ok, "", false)
	for _, other := range []string{text, "yes", "1", "1s", "a"} {
		if impl.SameValue(kind, text, other) || impl.SameValue(kind, other, text) {
			t.Errorf("SameValue(%d, %q, %q)", kind, text, other)
		}
	}
	if slices.Contains(impl.KindsOf(text), kind) {
		t.Errorf("KindsOf(%q) has %d", text, kind)
	}
}

func TestTypedTextOfKinds(t *testing.T) {
	for want, x := range map[string]impl.Typed{
		"": {}, "a, b": {Text: "a, b"}, "yes": typedNumber(impl.TyBool, 1), "no": typedNumber(impl.TyBool, 0), "-999999": typedNumber(impl.TyInt, -999999), "-1": typedNumber(impl.TyInt, -1), "12000": typedNumber(impl.TyInt, 12000),
		"0": typedNumber(impl.TySize, 0), "1": typedNumber(impl.TySize, 1), "999": typedNumber(impl.TySize, 999), "1k": typedNumber(impl.TySize, 1000), "1001": typedNumber(impl.TySize, 1001), "1500": typedNumber(impl.TySize, 1500), "999k": typedNumber(impl.TySize, 999000), "1m": typedNumber(impl.TySize, 1000000), "1001k": typedNumber(impl.TySize, 1001000), "1000001": typedNumber(impl.TySize, 1000001),
		"1g": typedNumber(impl.TySize, 1000000000), "1001m": typedNumber(impl.TySize, 1001000000), "2500m": typedNumber(impl.TySize, 2500000000), "1000001k": typedNumber(impl.TySize, 1000001000), "9g": typedNumber(impl.TySize, 9000000000), "8999999999": typedNumber(impl.TySize, 8999999999), "100": typedNumber(impl.TySize, 100), "10k": typedNumber(impl.TySize, 10000),
		"0s": typedNumber(impl.TyTime, 0), "59s": typedNumber(impl.TyTime, 59), "1m1s": typedNumber(impl.TyTime, 61), "1h": typedNumber(impl.TyTime, 3600), "1h1s": typedNumber(impl.TyTime, 3601), "1h1m": typedNumber(impl.TyTime, 3660), "23h59m59s": typedNumber(impl.TyTime, 86399), "1d": typedNumber(impl.TyTime, 86400), "1d1s": typedNumber(impl.TyTime, 86401), "1d1h1m1s": typedNumber(impl.TyTime, 90061), "10d10m": typedNumber(impl.TyTime, 864600), "115d17h46m39s": typedNumber(impl.TyTime, 9999999),
		"a": typedList("a"), "a,b": typedList("a", "b"), "a b,a,a b": typedList("a b", "a", "a b"), "a,b,c,d,e,f,g,h": typedList("a", "b", "c", "d", "e", "f", "g", "h"),
	} {
		if got := impl.TypedText(x); got != want {
			t.Errorf("TypedText(%+v) = %q; want %q", x, got, want)
		}
	}
	if got := impl.TypedText(typedList()); got != "" {
		t.Errorf("TypedText of a list of nothing = %q", got)
	}
	for _, x := range someTyped() {
		if got, want := impl.TypedText(x), wantTypedText(x); got != want {
			t.Errorf("TypedText(%+v) = %q; want %q", x, got, want)
		}
	}
}

func TestCanonTextOfKinds(t *testing.T) {
	for _, c := range []struct {
		kind       int
		text, want string
	}{
		{impl.TyText, "", ""}, {impl.TyText, "007", "007"}, {impl.TyText, "a , b", "a , b"}, {impl.TyBool, "on", "yes"}, {impl.TyBool, "off", "no"}, {impl.TyBool, "yes", "yes"}, {impl.TyBool, "false", "no"}, {impl.TyInt, "-5", "-5"}, {impl.TyInt, "2000", "2000"},
		{impl.TySize, "2000", "2k"}, {impl.TySize, "2000k", "2m"}, {impl.TySize, "2000m", "2g"}, {impl.TySize, "0g", "0"}, {impl.TySize, "1500m", "1500m"}, {impl.TySize, "1500k", "1500k"}, {impl.TySize, "1000000k", "1g"}, {impl.TySize, "5", "5"},
		{impl.TyTime, "60s", "1m"}, {impl.TyTime, "60m", "1h"}, {impl.TyTime, "24h", "1d"}, {impl.TyTime, "0d0h0m0s", "0s"}, {impl.TyTime, "1h0m5s", "1h5s"}, {impl.TyTime, "90m90s", "1h31m30s"}, {impl.TyTime, "86399s", "23h59m59s"},
		{impl.TyList, "", ""}, {impl.TyList, "a , b ,c", "a,b,c"}, {impl.TyList, "a", "a"}, {impl.TyList, "b,a", "b,a"},
	} {
		got, ok := impl.CanonText(c.kind, c.text)
		checkFound(t, "CanonText "+c.text, got, ok, c.want, true)
	}
}

func TestKindsOfTexts(t *testing.T) {
	for text, want := range map[string][]int{
		"": {0, 5}, "a": {0, 5}, "yes": {0, 1, 5}, "off": {0, 1, 5}, "0": {0, 2, 3, 5}, "-1": {0, 2, 5}, "-0": {0, 5}, "01": {0, 5}, "5": {0, 2, 3, 5}, "1000000": {0, 3, 5}, "9000000001": {0, 5}, "1k": {0, 3, 5}, "1m": {0, 3, 4, 5}, "9000m": {0, 3, 4, 5}, "9001m": {0, 4, 5}, "166667m": {0, 5},
		"1h": {0, 4, 5}, "1m1h": {0, 5}, "1h1m": {0, 4, 5}, "a,b": {0, 5}, ",": {0}, "a,,b": {0}, "a,": {0}, "a,b,c,d,e,f,g,h": {0, 5}, "a,b,c,d,e,f,g,h,i": {0}, "1,2": {0, 5}, "0m": {0, 3, 4, 5},
	} {
		if got := impl.KindsOf(text); !slices.Equal(got, want) {
			t.Errorf("KindsOf(%q) = %v; want %v", text, got, want)
		}
	}
}

func TestReadTypedOfAllTexts(t *testing.T) {
	counts := make([]int, 6)
	eachTyped(t, func(t *testing.T, kind int, text string, x impl.Typed, ok bool) {
		got, found := impl.ReadTyped(kind, text)
		checkTyped(t, "ReadTyped", got, found, x, ok)
		canon := ""
		if ok {
			counts[kind]++
			canon = wantTypedText(x)
		}
		made, found := impl.CanonText(kind, text)
		checkFound(t, "CanonText", made, found, canon, ok)
		if kind == 0 && !slices.Equal(impl.KindsOf(text), wantKinds(text)) {
			t.Errorf("KindsOf = %v; want %v", impl.KindsOf(text), wantKinds(text))
		}
	})
	for kind, least := range []int{20000, 6, 300, 1000, 500, 10000} {
		if counts[kind] < least {
			t.Errorf("just %d texts have the kind %d", counts[kind], kind)
		}
	}
}
