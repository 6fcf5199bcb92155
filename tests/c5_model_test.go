package tests

import (
	"math/big"
	"math/rand"
	"regexp"
	"slices"
	"strconv"
	"strings"
	"testing"

	"loop.example/settinglayers/impl"
)

// The texts of values of kinds, as patterns.
var (
	yesForm  = regexp.MustCompile(`^(?:yes|on|true)$`)
	noForm   = regexp.MustCompile(`^(?:no|off|false)$`)
	intForm  = regexp.MustCompile(`^(?:0|-?[1-9][0-9]*)$`)
	sizeForm = regexp.MustCompile(`^(0|[1-9][0-9]*)([kmg]?)$`)
	timeForm = regexp.MustCompile(`^(?:(0|[1-9][0-9]*)d)?(?:(0|[1-9][0-9]*)h)?(?:(0|[1-9][0-9]*)m)?(?:(0|[1-9][0-9]*)s)?$`)
	listForm = regexp.MustCompile(`^(?: *[^, ][^,]*(?:,|$))*$`)
	itemForm = regexp.MustCompile(`[^, ](?:[^,]*[^, ])?`)
)

// wantRead returns what ReadTyped has to tell. Unlike the program it reads by patterns, and has numbers of any length.
func wantRead(kind int, text string) (impl.Typed, bool) {
	if !valueForm.MatchString(text) {
		return impl.Typed{}, false
	}
	switch kind {
	case impl.TyText:
		return impl.Typed{Text: text}, true
	case impl.TyBool:
		if yesForm.MatchString(text) {
			return typedNumber(kind, 1), true
		}
		return wantNumber(kind, noForm.MatchString(text), new(big.Int))
	case impl.TyInt:
		return wantNumber(kind, intForm.MatchString(text), bigOf(text, 1))
	case impl.TySize:
		m := sizeForm.FindStringSubmatch(text)
		if m == nil {
			return impl.Typed{}, false
		}
		return wantNumber(kind, true, bigOf(m[1], map[string]int64{"": 1, "k": 1000, "m": 1000000, "g": 1000000000}[m[2]]))
	case impl.TyTime:
		m := timeForm.FindStringSubmatch(text)
		if m == nil || text == "" {
			return impl.Typed{}, false
		}
		sum := new(big.Int)
		for i, one := range []int64{86400, 3600, 60, 1} {
			sum.Add(sum, bigOf("0"+m[i+1], one))
		}
		return wantNumber(kind, true, sum)
	case impl.TyList:
		if !listForm.MatchString(text) || strings.HasSuffix(text, ",") {
			return impl.Typed{}, false
		}
		items := itemForm.FindAllString(text, -1)
		return impl.Typed{Kind: kind, Items: items}, len(items) <= 8
	}
	return impl.Typed{}, false
}

// bigOf returns the number of digits, so many times; 0 if they are none.
func bigOf(digits string, times int64) *big.Int {
	n, ok := new(big.Int).SetString(digits, 10)
	if !ok {
		return new(big.Int)
	}
	return n.Mul(n, big.NewInt(times))
}

// wantNumber returns a value with a number of its kind, if it is read and not too far.
func wantNumber(kind int, read bool, n *big.Int) (impl.Typed, bool) {
	if !read || !n.IsInt64() || !wantNumberOf(kind, int(n.Int64())) {
		return impl.Typed{}, false
	}
	return typedNumber(kind, int(n.Int64())), true
}

// wantNumberOf reports whether a kind has a number.
func wantNumberOf(kind, n int) bool {
	switch kind {
	case impl.TyBool:
		return n == 0 || n == 1
	case impl.TyInt:
		return n > -1000000 && n < 1000000
	case impl.TySize:
		return n >= 0 && n <= 9000000000
	case impl.TyTime:
		return n >= 0 && n < 10000000
	}
	return false
}

// wantTyped reports what ValidTyped has to tell.
func wantTyped(x impl.Typed) bool {
	switch x.Kind {
	case impl.TyText:
		return valueForm.MatchString(x.Text) && x.Int == 0 && len(x.Items) == 0
	case impl.TyList:
		for _, item := range x.Items {
			if item == "" || !valueForm.MatchString(item) || strings.Contains(item, ",") {
				return false
			}
		}
		return x.Text == "" && x.Int == 0 && len(x.Items) <= 8 && len(strings.Join(x.Items, ",")) <= 40
	}
	return wantNumberOf(x.Kind, x.Int) && x.Text == "" && len(x.Items) == 0
}

// wantTypedText returns the text that a valid value has to have.
func wantTypedText(x impl.Typed) string {
	digits := strconv.Itoa(x.Int)
	switch x.Kind {
	case impl.TyBool:
		return []string{"no", "yes"}[x.Int]
	case impl.TyInt:
		return digits
	case impl.TySize:
		for _, unit := range []string{"000000000g", "000000m", "000k"} {
			zeros := unit[:len(unit)-1]
			if strings.HasSuffix(digits, zeros) {
				return strings.TrimSuffix(digits, zeros) + unit[len(zeros):]
			}
		}
		return digits
	case impl.TyTime:
		text := ""
		for i, n := range []int{x.Int / 86400, x.Int / 3600 % 24, x.Int / 60 % 60, x.Int % 60} {
			if n != 0 || i == 3 && text == "" {
				text += strconv.Itoa(n) + "dhms"[i:i+1]
			}
		}
		return text
	}
	return x.Text + strings.Join(x.Items, ",")
}

// wantCompared returns what CompareTyped has to tell of valid values.
func wantCompared(x, y impl.Typed) int {
	if x.Kind != y.Kind {
		return 2
	}
	if x.Int != y.Int {
		return big.NewInt(int64(x.Int)).Cmp(big.NewInt(int64(y.Int)))
	}
	// No item has a byte of 0, so that an item stands ahead of each that begins with it.
	return strings.Compare(strings.Join(append([]string{x.Text}, x.Items...), "\x00"), strings.Join(append([]string{y.Text}, y.Items...), "\x00"))
}

// wantKinds returns what KindsOf has to tell.
func wantKinds(text string) []int {
	var kinds []int
	for kind := range 6 {
		if _, ok := wantRead(kind, text); ok {
			kinds = append(kinds, kind)
		}
	}
	return kinds
}

// wantSum returns what AddTyped has to tell of valid values.
func wantSum(x, y impl.Typed) (impl.Typed, bool) {
	sum := impl.Typed{Kind: x.Kind, Int: x.Int + y.Int, Items: append(slices.Clone(x.Items), y.Items...)}
	return sum, x.Kind == y.Kind && x.Kind > impl.TyBool && wantTyped(sum)
}

// hasNumber reports whether a kind has numbers.
func hasNumber(kind int) bool {
	return wantNumberOf(kind, 0)
}

// wantClamped returns what ClampTyped has to tell of a valid value.
func wantClamped(x impl.Typed, low, high int) (impl.Typed, bool) {
	switch {
	case !hasNumber(x.Kind) || low > high:
		return impl.Typed{}, false
	case x.Int < low:
		x.Int = low
	case x.Int > high:
		x.Int = high
	}
	return x, wantTyped(x)
}

// wantPut returns what ListPut has to tell of a valid value.
func wantPut(x impl.Typed, item string) (impl.Typed, bool) {
	if x.Kind == impl.TyList && !slices.Contains(x.Items, item) {
		x.Items = append(slices.Clone(x.Items), item)
	}
	return x, x.Kind == impl.TyList && wantTyped(x)
}

// wantItemCut returns what ListCut has to tell of a valid value.
func wantItemCut(x impl.Typed, item string) (impl.Typed, bool) {
	had := len(x.Items)
	x.Items = slices.DeleteFunc(slices.Clone(x.Items), func(s string) bool { return s == item })
	return x, len(x.Items) < had
}

// typedNumber returns a value of a kind with a number.
func typedNumber(kind, n int) impl.Typed {
	return impl.Typed{Kind: kind, Int: n}
}

// typedList returns a list.
func typedList(items ...string) impl.Typed {
	return impl.Typed{Kind: impl.TyList, Items: items}
}

// typedOf returns the value of a kind of a text that has one.
func typedOf(t *testing.T, kind int, text string) impl.Typed {
	t.Helper()
	x, ok := wantRead(kind, text)
	if !ok {
		t.Fatalf("the test itself is wrong: %q has no kind %d", text, kind)
	}
	return x
}

// sameTyped reports whether two values are the same, with lists of nothing in any form.
func sameTyped(x, y impl.Typed) bool {
	return x.Kind == y.Kind && x.Text == y.Text && x.Int == y.Int && slices.Equal(x.Items, y.Items)
}

// checkTyped checks the result of a function that makes a value of a kind.
func checkTyped(t *testing.T, what string, got impl.Typed, ok bool, want impl.Typed, wantOK bool) {
	t.Helper()
	if !wantOK {
		want = impl.Typed{}
	}
	if ok != wantOK || !sameTyped(got, want) {
		t.Errorf("%s = %+v, %v; want %+v, %v", what, got, ok, want, wantOK)
	}
}

// edgeTexts are texts at the edges: numbers at their limits and over them, and all that can be written wrongly.
func edgeTexts() []string {
	v39 := strings.Repeat("v", 39)
	return []string{
		"yes", "on", "true", "no", "off", "false", "Yes", "ON", "y", "n", "t", "yes no", "yes,no", "yess", "tru", "00", "-00", "+1", "-+1", "--1", "1-", "- 1", "1 000", "1_000", "0x1", "1e3", "1.5", "01", "-01", "-1k", "+1k", "-1s",
		"999999", "1000000", "-999999", "-1000000", "999999999999", "-9223372036854775808", "9223372036854775807", "9223372036854775808", "-9223372036854775809", "18446744073709551616", "18446744073709551617",
		"9000000000", "9000000001", "8999999999", "9000000k", "9000001k", "8999999k", "9000m", "9001m", "8999m", "9g", "10g", "8g", "90g", "9gg", "9kg", "9gk", "1k1", "1kb", "1K", "1M", "1G", "k1", "0k", "0m", "0g", "00k", "01k", "1 k", "9223372036854775807g", "18446744074g", "9223372037g", "36893488147419103232k",
		"9999999s", "10000000s", "9999998s", "166666m", "166667m", "166666m39s", "166666m40s", "2777h46m39s", "2777h46m40s", "2777h", "2778h", "115d", "116d", "115d17h46m39s", "115d17h46m40s", "115d17h47m", "0d115d", "115d9999999s", "9000000001s", "213503982334602d", "106751991167301d", "18446744073709551617s",
		"1d1h1m1s", "0d0h0m0s", "1d 1h", "1d,1h", "1s1m", "1s1d", "1m1d", "1h1d", "1m1h1s", "1d1m1h", "1d1d", "1s1s", "1m1m", "1d1", "1d1h1", "d1", "1h2m3s4", "dhms", "1d-1h", "-1d1h", "1d+1h", "1h01m", "01h1m", "00s", "1h00s", "1.5h", "1D", "1H", "1S", "25h", "61m", "3661s", "90061s", "1w", "0d1s", "1d0s", "60s", "3600s", "86400s", "1440m", "24h", "59s", "23h59m59s",
		"a,b,c,d,e,f,g,h", "a,b,c,d,e,f,g,h,i", "a , b,  c  d ,e", "a,,b", ",", ",,", ",a", "a,", "a, ,b", "a,b,", " ,a", "a, ", "a b", "1,2,3", "a;b", "[a],[b]", v39, v39 + "v", v39 + "vv", v39[:19] + "," + v39[:20], v39[:20] + "," + v39[:20], "a" + strings.Repeat(" ", 37) + ",b", "a,a,a,a,a,a,a,a", "a,a,a,a,a,a,a,a,a", strings.Repeat("1", 40), strings.Repeat("0", 40), strings.Repeat("9", 39) + "k", strings.Repeat("0", 39) + "s",
		" 1", "1 ", " yes", "a\tb", "é", "a,é", "1\n", "yes\n", "1d\n", "\x00", "a,\xff", "٣", "１",
	}
}

// typedTexts returns texts of all kinds and of none: all short ones of a few parts, and longer ones.
func typedTexts() []string {
	list := append(upTo(4, []string{"0", "1", "9", "-", "d", "h", "m", "s", "k", "g", ",", " "}), edgeTexts()...)
	random := rand.New(rand.NewSource(5))
	for range 4000 {
		text := ""
		for range 1 + random.Intn(4) {
			text += strconv.Itoa(random.Intn([]int{3, 40, 3000, 9000000}[random.Intn(4)])) + []string{"d", "h", "m", "s", "k", "g", "", ",", " , "}[random.Intn(9)]
		}
		list = append(list, text)
	}
	for range 1000 {
		n := random.Int63n([]int64{10, 100000, 10000000, 9000000001}[random.Intn(4)])
		list = append(list, strconv.FormatInt(n, 10), strconv.FormatInt(-n, 10), strconv.FormatInt(n, 10)+"s", strconv.FormatInt(n/1000, 10)+"k", strconv.FormatInt(n/60, 10)+"m"+strconv.FormatInt(n%60, 10)+"s")
	}
	return list
}

// eachTyped calls check with each of typedTexts, each kind, and the value of it if there is one, until one fails.
func eachTyped(t *testing.T, check func(t *testing.T, kind int, text string, x impl.Typed, ok bool)) {
	t.Helper()
	for _, text := range typedTexts() {
		for kind := range 6 {
			x, ok := wantRead(kind, text)
			if check(t, kind, text, x, ok); t.Failed() {
				t.Fatalf("with the text %q of the kind %d", text, kind)
			}
		}
	}
}

// someTyped returns valid values of all kinds: near their limits, near units, and others.
func someTyped() []impl.Typed {
	list := []impl.Typed{typedNumber(impl.TyBool, 0), typedNumber(impl.TyBool, 1)}
	for _, text := range append(edgeTexts(), "", "a", "b", "ab", "a!", "~", "A") {
		if valueForm.MatchString(text) {
			list = append(list, impl.Typed{Text: text})
		}
	}
	for _, kind := range []int{impl.TyInt, impl.TySize, impl.TyTime} {
		for _, n := range someNumbers() {
			if wantNumberOf(kind, n) {
				list = append(list, typedNumber(kind, n))
			}
		}
	}
	v19 := strings.Repeat("v", 19)
	for _, text := range append(upTo(3, []string{"a,", "b,", "a b,", "a!,"}), "a,b,c,d,e,f,g,h,", "a,b,c,d,e,f,g,", "b,b,b,b,b,b,b,b,", "5,", "yes,", "1m,", "1,2,", v19+","+v19+"v,", v19+","+v19+",", v19+v19+",", v19+v19+"v,", v19+v19+"vv,") {
		items := strings.Split(text, ",")
		list = append(list, typedList(items[:len(items)-1]...))
	}
	return list
}

// someNumbers are numbers near 0, units and limits.
func someNumbers() []int {
	list := []int{-1, 2, 5, 59, 61, 90, 1500, 2000, 3661, 90061, 172800, 1001000, 12345678, 1234567000, 2500000000, -5, -2000}
	for _, n := range []int{0, 60, 1000, 3600, 86400, 1000000, 9999999, 1000000000, 9000000000, -1000000} {
		list = append(list, n-1, n, n+1)
	}
	return list
}

// badTyped are values that are not valid, each for one reason.
func badTyped() []impl.Typed {
	v41 := strings.Repeat("v", 41)
	list := []impl.Typed{
		{Kind: -1}, {Kind: 6}, {Kind: 6, Text: "x"}, {Kind: -1, Int: 1}, {Kind: 1 << 40}, {Kind: -1 << 63}, {Kind: 1<<63 - 1}, {Kind: 7, Items: []string{"a"}},
		{Text: v41}, {Text: " x"}, {Text: "x "}, {Text: "é"}, {Text: "x\n"}, {Text: "x", Int: 1}, {Int: 1}, {Int: -1}, {Text: "x", Items: []string{"a"}}, {Items: []string{"a"}}, {Items: []string{""}},
		typedNumber(impl.TyBool, 2), typedNumber(impl.TyBool, -1), typedNumber(impl.TyInt, 1000000), typedNumber(impl.TyInt, -1000000), typedNumber(impl.TySize, -1), typedNumber(impl.TySize, 9000000001),
		typedNumber(impl.TyTime, -1), typedNumber(impl.TyTime, 10000000), typedNumber(impl.TyInt, 1<<63-1), typedNumber(impl.TySize, -1<<63), typedNumber(impl.TyList, 1), {Kind: impl.TyList, Text: "a"}, {Kind: impl.TyList, Int: -1, Items: []string{"a"}}, {Kind: impl.TyList, Text: "a", Items: []string{"a"}},
		typedList(""), typedList("a", ""), typedList("", "a"), typedList("a,b"), typedList(","), typedList("a", "b,"), typedList(" a"), typedList("a "), typedList("a", " "), typedList("é"), typedList("a\n"), typedList(v41),
		typedList("a", "b", "c", "d", "e", "f", "g", "h", "i"), typedList(v41[:20], v41[:20]), typedList(v41[:39], "a"), typedList(v41[:40], ""), typedList(slices.Repeat([]string{"a"}, 1000)...), typedList("abcde", "abcde", "abcde", "abcde", "abcde", "abcde", "abcde"),
	}
	for kind := impl.TyBool; kind <= impl.TyTime; kind++ {
		list = append(list, impl.Typed{Kind: kind, Text: "x"}, impl.Typed{Kind: kind, Text: "1"}, impl.Typed{Kind: kind, Int: 1, Text: "1"}, impl.Typed{Kind: kind, Items: []string{"a"}}, impl.Typed{Kind: kind, Int: 1, Items: []string{""}})
	}
	return list
}
