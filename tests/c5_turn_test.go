package tests

import (
	"slices"
	"strings"
	"testing"

	"loop.example/settinglayers/impl"
)

// eachTypedPair calls check with all pairs of someTyped, until one fails.
func eachTypedPair(t *testing.T, check func(t *testing.T, x, y impl.Typed)) {
	t.Helper()
	all := someTyped()
	for _, x := range all {
		for _, y := range all {
			if check(t, x, y); t.Failed() {
				t.Fatalf("with %+v and %+v", x, y)
			}
		}
	}
}

// eachBounds calls check with each of someTyped and many bounds, until one fails.
func eachBounds(t *testing.T, check func(t *testing.T, x impl.Typed, low, high int)) {
	t.Helper()
	numbers := append(someNumbers(), -1<<63, 1<<63-1, -9000000000)
	for i, x := range someTyped() {
		for _, low := range numbers {
			for j, high := range numbers {
				// Values without numbers need fewer bounds.
				if !hasNumber(x.Kind) && (i+j)%7 > 0 {
					continue
				}
				if check(t, x, low, high); t.Failed() {
					t.Fatalf("with %+v and %d..%d", x, low, high)
				}
			}
		}
	}
}

// eachItem calls check with each of someTyped and many items, until one fails.
func eachItem(t *testing.T, check func(t *testing.T, x impl.Typed, item string)) {
	t.Helper()
	v40 := strings.Repeat("v", 40)
	for _, x := range someTyped() {
		for _, item := range []string{"a", "b", "a b", "a!", "h", "i", "new", "yes", "A", "v", v40, v40[:38], v40[:19], v40[:20], v40 + "v", "", " ", " a", "a ", ",", "a,b", "a,", "é", "a\n", "\xff"} {
			if check(t, x, item); t.Failed() {
				t.Fatalf("with %+v and %q", x, item)
			}
		}
	}
}

func TestCompareTypedInOrder(t *testing.T) {
	for kind, texts := range map[int][]string{
		impl.TyText: {"", "!", "-1", "0", "10", "2", "A", "Z", "a", "a b", "a,b", "aa", "ab", "b", "~"},
		impl.TyBool: {"no", "yes"},
		impl.TyInt:  {"-999999", "-10", "-9", "-1", "0", "1", "9", "10", "999", "1000", "999999"},
		impl.TySize: {"0", "1", "9", "10", "999", "1k", "1001", "2k", "999k", "1m", "1g", "8999999999", "9g"},
		impl.TyTime: {"0s", "59s", "1m", "61s", "59m59s", "1h", "2h", "23h59m59s", "1d", "9d", "10d", "115d17h46m39s"},
		impl.TyList: {"", "!", "a", "a,a", "a,a,a", "a,b", "a,b,a", "a,c", "a b", "a b,a", "aa", "b", "b,a", "c"},
	} {
		for i, a := range texts {
			for j, b := range texts {
				want := min(max(i-j, -1), 1)
				if got := impl.CompareTyped(typedOf(t, kind, a), typedOf(t, kind, b)); got != want {
					t.Errorf("CompareTyped of %q and %q of the kind %d = %d; want %d", a, b, kind, got, want)
				}
				if impl.SameValue(kind, a, b) != (i == j) {
					t.Errorf("SameValue(%d, %q, %q) = %v", kind, a, b, i != j)
				}
			}
		}
	}
}

func TestCompareTypedOfKinds(t *testing.T) {
	for a := range 6 {
		for b := range 6 {
			want := 2
			if a == b {
				want = 0
			}
			if got := impl.CompareTyped(typedNumber(a, 0), typedNumber(b, 0)); got != want {
				t.Errorf("CompareTyped of the kinds %d and %d = %d", a, b, got)
			}
		}
	}
	if got := impl.CompareTyped(impl.Typed{Kind: impl.TyList}, impl.Typed{Kind: impl.TyList, Items: []string{}}); got != 0 {
		t.Errorf("CompareTyped of lists of nothing = %d", got)
	}
}

func TestAddTypedOfKinds(t *testing.T) {
	for _, c := range []struct {
		kind       int
		a, b, want string
	}{
		{impl.TyInt, "1", "2", "3"}, {impl.TyInt, "1", "-2", "-1"}, {impl.TyInt, "0", "0", "0"}, {impl.TyInt, "999998", "1", "999999"}, {impl.TyInt, "-999998", "-1", "-999999"}, {impl.TyInt, "999999", "-999999", "0"},
		{impl.TySize, "1k", "1", "1001"}, {impl.TySize, "0", "0", "0"}, {impl.TySize, "8g", "1g", "9g"}, {impl.TySize, "8999999999", "1", "9g"}, {impl.TySize, "500k", "500k", "1m"},
		{impl.TyTime, "50s", "20s", "1m10s"}, {impl.TyTime, "0s", "0s", "0s"}, {impl.TyTime, "23h", "60m", "1d"}, {impl.TyTime, "115d17h46m38s", "1s", "115d17h46m39s"},
		{impl.TyList, "", "", ""}, {impl.TyList, "a", "", "a"}, {impl.TyList, "", "a", "a"}, {impl.TyList, "b,a", "a,c", "b,a,a,c"}, {impl.TyList, "a,b,c,d", "e,f,g,h", "a,b,c,d,e,f,g,h"}, {impl.TyList, "a,b,c,d,e,f,g,h", "", "a,b,c,d,e,f,g,h"},
		{impl.TyList, strings.Repeat("v", 20), strings.Repeat("w", 19), strings.Repeat("v", 20) + "," + strings.Repeat("w", 19)},
	} {
		got, ok := impl.AddTyped(typedOf(t, c.kind, c.a), typedOf(t, c.kind, c.b))
		checkTyped(t, "AddTyped of "+c.a+" and "+c.b, got, ok, typedOf(t, c.kind, c.want), true)
	}
	for _, c := range []struct {
		kind int
		a, b string
	}{
		{impl.TyText, "1", "2"}, {impl.TyText, "", ""}, {impl.TyBool, "no", "no"}, {impl.TyBool, "yes", "no"}, {impl.TyInt, "999999", "1"}, {impl.TyInt, "-999999", "-1"}, {impl.TyInt, "999999", "999999"}, {impl.TySize, "9g", "1"}, {impl.TySize, "9g", "9g"}, {impl.TySize, "8999999999", "2"},
		{impl.TyTime, "9999999s", "1s"}, {impl.TyTime, "9999999s", "9999999s"}, {impl.TyList, "a,b,c,d", "e,f,g,h,i"}, {impl.TyList, "a,b,c,d,e,f,g,h", "i"}, {impl.TyList, strings.Repeat("v", 20), strings.Repeat("w", 20)}, {impl.TyList, strings.Repeat("v", 39), "a"}, {impl.TyList, strings.Repeat("v", 40), "a"},
	} {
		got, ok := impl.AddTyped(typedOf(t, c.kind, c.a), typedOf(t, c.kind, c.b))
		checkTyped(t, "AddTyped of "+c.a+" and "+c.b, got, ok, impl.Typed{}, false)
	}
	for a := range 6 {
		for b := range 6 {
			got, ok := impl.AddTyped(typedNumber(a, 0), typedNumber(b, 0))
			checkTyped(t, "AddTyped of two kinds", got, ok, typedNumber(a, 0), a == b && a > impl.TyBool)
		}
	}
}

func TestConvertTypedOfKinds(t *testing.T) {
	for _, c := range []struct {
		from, to   int
		text, want string
	}{
		{impl.TyText, impl.TyBool, "on", "yes"}, {impl.TyText, impl.TyInt, "-5", "-5"}, {impl.TyText, impl.TySize, "2000", "2k"}, {impl.TyText, impl.TyTime, "90s", "1m30s"}, {impl.TyText, impl.TyList, "a , b", "a,b"}, {impl.TyText, impl.TyList, "", ""},
		{impl.TyBool, impl.TyText, "on", "yes"}, {impl.TyBool, impl.TyText, "off", "no"}, {impl.TyBool, impl.TyList, "true", "yes"}, {impl.TyInt, impl.TyText, "-5", "-5"}, {impl.TyInt, impl.TySize, "5000", "5000"}, {impl.TyInt, impl.TySize, "0", "0"}, {impl.TyInt, impl.TyList, "-5", "-5"},
		{impl.TySize, impl.TyInt, "5001", "5001"}, {impl.TySize, impl.TyInt, "0k", "0"}, {impl.TySize, impl.TyText, "1000k", "1m"}, {impl.TySize, impl.TyTime, "5m", "5m"}, {impl.TySize, impl.TyTime, "1000k", "1m"}, {impl.TySize, impl.TyList, "2000", "2k"},
		{impl.TyTime, impl.TyText, "90s", "1m30s"}, {impl.TyTime, impl.TySize, "60s", "1m"}, {impl.TyTime, impl.TySize, "5m", "5m"}, {impl.TyTime, impl.TyList, "25h", "1d1h"}, {impl.TyList, impl.TyText, "a , b", "a,b"}, {impl.TyList, impl.TyText, "", ""}, {impl.TyList, impl.TyBool, "on", "yes"},
		{impl.TyList, impl.TyInt, "5", "5"}, {impl.TyList, impl.TySize, "5000", "5k"}, {impl.TyList, impl.TyTime, "60s", "1m"}, {impl.TyText, impl.TyText, "007", "007"}, {impl.TyBool, impl.TyBool, "on", "yes"}, {impl.TySize, impl.TySize, "2000", "2k"}, {impl.TyTime, impl.TyTime, "90s", "1m30s"}, {impl.TyList, impl.TyList, "a,b", "a,b"},
	} {
		got, ok := impl.ConvertTyped(typedOf(t, c.from, c.text), c.to)
		checkTyped(t, "ConvertTyped of "+c.text, got, ok, typedOf(t, c.to, c.want), true)
	}
	for _, c := range []struct {
		from, to int
		text     string
	}{
		{impl.TyText, impl.TyBool, ""}, {impl.TyText, impl.TyBool, "1"}, {impl.TyText, impl.TyInt, "007"}, {impl.TyText, impl.TyInt, ""}, {impl.TyText, impl.TySize, "-1"}, {impl.TyText, impl.TyTime, "1m1h"}, {impl.TyText, impl.TyList, "a,,b"}, {impl.TyText, impl.TyList, "a,b,c,d,e,f,g,h,i"},
		{impl.TyBool, impl.TyInt, "yes"}, {impl.TyBool, impl.TySize, "no"}, {impl.TyBool, impl.TyTime, "no"}, {impl.TyInt, impl.TyBool, "1"}, {impl.TyInt, impl.TySize, "-5"}, {impl.TyInt, impl.TyTime, "5"}, {impl.TyInt, impl.TyTime, "0"}, {impl.TySize, impl.TyInt, "5k"}, {impl.TySize, impl.TyInt, "1000001"}, {impl.TySize, impl.TyTime, "5"}, {impl.TySize, impl.TyTime, "1k"}, {impl.TySize, impl.TyBool, "1"},
		{impl.TyTime, impl.TySize, "1h"}, {impl.TyTime, impl.TySize, "0s"}, {impl.TyTime, impl.TyInt, "5s"}, {impl.TyTime, impl.TyBool, "0s"}, {impl.TyList, impl.TyInt, ""}, {impl.TyList, impl.TyBool, ""}, {impl.TyList, impl.TyTime, ""}, {impl.TyList, impl.TyInt, "1,2"}, {impl.TyList, impl.TyBool, "yes,no"},
		{impl.TyText, -1, "a"}, {impl.TyText, 6, "a"}, {impl.TyInt, 1 << 40, "1"}, {impl.TyList, 7, ""}, {impl.TyBool, -1 << 63, "yes"},
	} {
		got, ok := impl.ConvertTyped(typedOf(t, c.from, c.text), c.to)
		checkTyped(t, "ConvertTyped of "+c.text, got, ok, impl.Typed{}, false)
	}
}

func TestBoundsOfNumbers(t *testing.T) {
	for _, c := range []struct {
		kind, n, low, high int
		in                 bool
		want               int
	}{
		{impl.TyInt, 5, 5, 5, true, 5}, {impl.TyInt, 5, 4, 6, true, 5}, {impl.TyInt, 5, 5, 6, true, 5}, {impl.TyInt, 5, 4, 5, true, 5}, {impl.TyInt, 5, 6, 7, false, 6}, {impl.TyInt, 5, 3, 4, false, 4}, {impl.TyInt, -5, -4, 4, false, -4}, {impl.TyInt, 0, -1 << 63, 1<<63 - 1, true, 0}, {impl.TyInt, 0, 999999, 1 << 40, false, 999999}, {impl.TyInt, 0, -1 << 63, -999999, false, -999999},
		{impl.TyBool, 1, 0, 1, true, 1}, {impl.TyBool, 1, -5, 0, false, 0}, {impl.TyBool, 0, 1, 9, false, 1}, {impl.TyBool, 0, 0, 0, true, 0}, {impl.TySize, 9000000000, 0, 8999999999, false, 8999999999}, {impl.TySize, 0, 9000000000, 9000000001, false, 9000000000}, {impl.TySize, 5, -5, -0, false, 0}, {impl.TyTime, 9999999, 0, 60, false, 60}, {impl.TyTime, 0, 9999999, 1 << 62, false, 9999999}, {impl.TyTime, 60, 60, 61, true, 60},
	} {
		x := typedNumber(c.kind, c.n)
		if impl.InBounds(x, c.low, c.high) != c.in {
			t.Errorf("InBounds(%+v, %d, %d) = %v", x, c.low, c.high, !c.in)
		}
		got, ok := impl.ClampTyped(x, c.low, c.high)
		checkTyped(t, "ClampTyped", got, ok, typedNumber(c.kind, c.want), true)
	}
	for _, c := range []struct {
		x         impl.Typed
		low, high int
	}{
		{typedNumber(impl.TyInt, 5), 6, 4}, {typedNumber(impl.TyInt, 5), 6, 5}, {typedNumber(impl.TyInt, 5), 5, 4}, {typedNumber(impl.TyInt, 5), 1<<63 - 1, -1 << 63}, {typedNumber(impl.TyInt, 5), 1000000, 1000001}, {typedNumber(impl.TyInt, 5), -2000000, -1000000},
		{typedNumber(impl.TyBool, 1), 2, 3}, {typedNumber(impl.TyBool, 0), -2, -1}, {typedNumber(impl.TySize, 5), -9, -1}, {typedNumber(impl.TySize, 5), 9000000001, 1 << 62}, {typedNumber(impl.TyTime, 5), -9, -1}, {typedNumber(impl.TyTime, 5), 10000000, 10000000},
		{impl.Typed{}, 0, 0}, {impl.Typed{Text: "5"}, 0, 9}, {impl.Typed{Text: "x"}, -1 << 63, 1<<63 - 1}, {typedList(), 0, 0}, {typedList("5"), 0, 9},
	} {
		if impl.InBounds(c.x, c.low, c.high) {
			t.Errorf("InBounds(%+v, %d, %d)", c.x, c.low, c.high)
		}
		got, ok := impl.ClampTyped(c.x, c.low, c.high)
		checkTyped(t, "ClampTyped", got, ok, impl.Typed{}, false)
	}
}

// checkList checks the result of a function that makes a list: that of a text, or none for "-".
func checkList(t *testing.T, what string, got impl.Typed, ok bool, want string) {
	t.Helper()
	if want == "-" {
		checkTyped(t, what, got, ok, impl.Typed{}, false)
		return
	}
	checkTyped(t, what, got, ok, typedOf(t, impl.TyList, want), true)
}

func TestListPutAndListCut(t *testing.T) {
	v39 := strings.Repeat("v", 39)
	for _, c := range []struct{ items, item, put, cut string }{
		{"", "a", "a", "-"}, {"a", "a", "a", ""}, {"a", "b", "a,b", "-"}, {"a,b,a", "a", "a,b,a", "b"}, {"a,b,a", "b", "a,b,a", "a,a"}, {"a,a,a", "a", "a,a,a", ""}, {"b", "a b", "b,a b", "-"}, {"a", "A", "a,A", "-"}, {"ab", "a", "ab,a", "-"}, {"a", "ab", "a,ab", "-"}, {"b,a,c", "c", "b,a,c", "b,a"},
		{"a,b,c,d,e,f,g", "h", "a,b,c,d,e,f,g,h", "-"}, {"a,b,c,d,e,f,g,h", "h", "a,b,c,d,e,f,g,h", "a,b,c,d,e,f,g"}, {"a,b,c,d,e,f,g,h", "i", "-", "-"}, {"", v39, v39, "-"}, {"", v39 + "v", v39 + "v", "-"}, {"", v39 + "vv", "-", "-"}, {"a", v39[:38], "a," + v39[:38], "-"}, {"a", v39, "-", "-"}, {"a," + v39[:38], v39[:38], "a," + v39[:38], "a"},
		{"a", "", "-", "-"}, {"", "", "-", "-"}, {"a", " ", "-", "-"}, {"a", " a", "-", "-"}, {"a", "a ", "-", "-"}, {"a,b", "a,b", "-", "-"}, {"a,b", ",", "-", "-"}, {"a", "a,", "-", "-"}, {"a", "é", "-", "-"}, {"a", "a\n", "-", "-"},
	} {
		x := typedOf(t, impl.TyList, c.items)
		got, ok := impl.ListPut(x, c.item)
		checkList(t, "ListPut "+c.item+" of "+c.items, got, ok, c.put)
		got, ok = impl.ListCut(x, c.item)
		checkList(t, "ListCut "+c.item+" of "+c.items, got, ok, c.cut)
	}
	for _, x := range []impl.Typed{{}, {Text: "a"}, {Text: "a,b"}, typedNumber(impl.TyBool, 0), typedNumber(impl.TyInt, 1), typedNumber(impl.TySize, 0), typedNumber(impl.TyTime, 0)} {
		for _, item := range []string{"a", "b", "", "1"} {
			got, ok := impl.ListPut(x, item)
			checkTyped(t, "ListPut", got, ok, impl.Typed{}, false)
			got, ok = impl.ListCut(x, item)
			checkTyped(t, "ListCut", got, ok, impl.Typed{}, false)
		}
	}
}

func TestSameValueOfTexts(t *testing.T) {
	for _, c := range []struct {
		kind int
		a, b string
		want bool
	}{
		{impl.TyText, "", "", true}, {impl.TyText, "a", "a", true}, {impl.TyText, "1k", "1000", false}, {impl.TyText, "on", "yes", false}, {impl.TyText, "a,b", "a, b", false}, {impl.TyBool, "on", "yes", true}, {impl.TyBool, "off", "false", true}, {impl.TyBool, "on", "off", false}, {impl.TyBool, "x", "x", false}, {impl.TyBool, "1", "yes", false},
		{impl.TyInt, "5", "5", true}, {impl.TyInt, "5", "-5", false}, {impl.TyInt, "05", "5", false}, {impl.TyInt, "05", "05", false}, {impl.TyInt, "-0", "0", false}, {impl.TyInt, "1000000", "1000000", false}, {impl.TySize, "1000", "1k", true}, {impl.TySize, "0", "0g", true}, {impl.TySize, "9g", "9000m", true}, {impl.TySize, "10g", "10000m", false}, {impl.TySize, "1k", "1024", false}, {impl.TySize, "-1", "-1", false},
		{impl.TyTime, "90s", "1m30s", true}, {impl.TyTime, "0d", "0s", true}, {impl.TyTime, "24h", "1d", true}, {impl.TyTime, "1m", "1h", false}, {impl.TyTime, "1m1h", "1m1h", false}, {impl.TyTime, "", "0s", false}, {impl.TyList, "a , b", "a,b", true}, {impl.TyList, "", "", true}, {impl.TyList, "a,b", "b,a", false}, {impl.TyList, "a", "a,a", false}, {impl.TyList, "a,", "a,", false}, {impl.TyList, ",", "", false},
		{-1, "a", "a", false}, {6, "a", "a", false}, {1 << 40, "", "", false},
	} {
		if impl.SameValue(c.kind, c.a, c.b) != c.want || impl.SameValue(c.kind, c.b, c.a) != c.want {
			t.Errorf("SameValue(%d, %q, %q) is not %v both ways", c.kind, c.a, c.b, c.want)
		}
	}
}

func TestTurnAllPairsOfTyped(t *testing.T) {
	sums := 0
	eachTypedPair(t, func(t *testing.T, x, y impl.Typed) {
		if got, want := impl.CompareTyped(x, y), wantCompared(x, y); got != want {
			t.Errorf("CompareTyped = %d; want %d", got, want)
		}
		sum, ok := impl.AddTyped(x, y)
		want, wantOK := wantSum(x, y)
		if checkTyped(t, "AddTyped", sum, ok, want, wantOK); ok {
			sums++
		}
	})
	enough(t, "values have a sum", sums, 3000)
}

func TestTurnAllTyped(t *testing.T) {
	turned := 0
	for _, x := range someTyped() {
		for kind := -1; kind < 7; kind++ {
			want, wantOK := wantRead(kind, wantTypedText(x))
			got, ok := impl.ConvertTyped(x, kind)
			if checkTyped(t, "ConvertTyped", got, ok, want, wantOK); ok {
				turned++
			}
		}
	}
	eachBounds(t, func(t *testing.T, x impl.Typed, low, high int) {
		if want := hasNumber(x.Kind) && x.Int >= low && x.Int <= high; impl.InBounds(x, low, high) != want {
			t.Errorf("InBounds = %v", !want)
		}
		got, ok := impl.ClampTyped(x, low, high)
		want, wantOK := wantClamped(x, low, high)
		checkTyped(t, "ClampTyped", got, ok, want, wantOK)
	})
	eachItem(t, func(t *testing.T, x impl.Typed, item string) {
		got, ok := impl.ListPut(x, item)
		want, wantOK := wantPut(x, item)
		checkTyped(t, "ListPut", got, ok, want, wantOK)
		got, ok = impl.ListCut(x, item)
		want, wantOK = wantItemCut(x, item)
		checkTyped(t, "ListCut", got, ok, want, wantOK)
	})
	enough(t, "values are converted", turned, 500)
}

func TestTypedShareNoMemory(t *testing.T) {
	whole := append([]string{"a", "b", "a"}, make([]string, 8)...)
	before := slices.Clone(whole)
	x, none, short := typedList(whole[:3]...), typedList(whole[:0]...), impl.Typed{Kind: impl.TyInt, Int: 1, Items: whole[3:3]}
	first := func(x impl.Typed, ok bool) impl.Typed { return x }
	for i, got := range []impl.Typed{
		first(impl.ReadTyped(impl.TyList, "a,b")), first(impl.AddTyped(x, x)), first(impl.AddTyped(x, none)), first(impl.AddTyped(none, x)), first(impl.AddTyped(none, none)), first(impl.AddTyped(short, short)),
		first(impl.ConvertTyped(x, impl.TyList)), first(impl.ConvertTyped(none, impl.TyList)), first(impl.ConvertTyped(short, impl.TyInt)), first(impl.ClampTyped(short, 0, 1)), first(impl.ClampTyped(short, 2, 3)),
		first(impl.ListPut(x, "a")), first(impl.ListPut(x, "c")), first(impl.ListPut(none, "c")), first(impl.ListCut(x, "a")), first(impl.ListCut(x, "b")),
	} {
		if !slices.Equal(whole, before) {
			t.Fatalf("function %d changes a value", i)
		}
		for j := range got.Items[:cap(got.Items)] {
			got.Items[:cap(got.Items)][j] = "changed"
		}
		if !slices.Equal(whole, before) {
			t.Fatalf("the value of function %d shares memory with one before", i)
		}
	}
	impl.CompareTyped(x, none)
	impl.TypedText(x)
	if impl.ValidTyped(x); !slices.Equal(whole, before) {
		t.Error("a function that tells something changes a value")
	}
	for range 2 {
		kinds := impl.KindsOf("5")
		if !slices.Equal(kinds, []int{0, 2, 3, 5}) {
			t.Errorf("KindsOf = %v", kinds)
		}
		kinds[0] = 9
	}
}
