package tests

import (
	"slices"
	"strconv"
	"testing"

	"loop.example/settinglayers/impl"
)

// The tests of this file have the numbers of the document's promises.

// eachKindText calls check with each of typedTexts and each kind, until one fails.
func eachKindText(t *testing.T, check func(t *testing.T, kind int, text string)) {
	t.Helper()
	eachTyped(t, func(t *testing.T, kind int, text string, _ impl.Typed, _ bool) { check(t, kind, text) })
}

// allTyped returns someTyped, and the values of typedTexts that the program reads.
func allTyped() []impl.Typed {
	list := someTyped()
	for _, text := range typedTexts() {
		for kind := range 6 {
			if x, ok := impl.ReadTyped(kind, text); ok {
				list = append(list, x)
			}
		}
	}
	return list
}

// eachValue calls check with each of allTyped, until one fails.
func eachValue(t *testing.T, check func(t *testing.T, x impl.Typed)) {
	t.Helper()
	for _, x := range allTyped() {
		if check(t, x); t.Failed() {
			t.Fatalf("with %+v", x)
		}
	}
}

func TestP71ValuesOfKindsHaveTexts(t *testing.T) {
	n := make([]int, 6)
	eachValue(t, func(t *testing.T, x impl.Typed) {
		got, ok := impl.ReadTyped(x.Kind, impl.TypedText(x))
		checkTyped(t, "ReadTyped of TypedText", got, ok, x, true)
		n[x.Kind]++
	})
	for kind, least := range []int{20000, 8, 300, 1000, 500, 10000} {
		enough(t, "values of the kind "+strconv.Itoa(kind), n[kind], least)
	}
}

func TestP72ValuesAreReadByKinds(t *testing.T) {
	n := 0
	eachKindText(t, func(t *testing.T, kind int, text string) {
		x, ok := impl.ReadTyped(kind, text)
		if !ok {
			return
		}
		n++
		if !impl.ValidTyped(x) || x.Kind != kind {
			t.Errorf("ReadTyped = %+v", x)
		}
		canon, ok := impl.CanonText(kind, text)
		checkFound(t, "CanonText", canon, ok, impl.TypedText(x), true)
		if !impl.SameValue(kind, text, impl.TypedText(x)) {
			t.Errorf("TypedText = %q has another value", impl.TypedText(x))
		}
	})
	enough(t, "values are read", n, 30000)
}

func TestP73TextsOfValuesAreOne(t *testing.T) {
	eachValue(t, func(t *testing.T, x impl.Typed) {
		text := impl.TypedText(x)
		if !impl.ValidValue(text) {
			t.Errorf("TypedText = %q", text)
		}
		canon, ok := impl.CanonText(x.Kind, text)
		checkFound(t, "CanonText of TypedText", canon, ok, text, true)
	})
}

func TestP74CanonicalTextsAreTheirOwn(t *testing.T) {
	n := 0
	eachKindText(t, func(t *testing.T, kind int, text string) {
		canon, ok := impl.CanonText(kind, text)
		if !ok {
			return
		}
		again, ok := impl.CanonText(kind, canon)
		checkFound(t, "CanonText of CanonText", again, ok, canon, true)
		if !impl.SameValue(kind, text, canon) {
			t.Errorf("CanonText = %q has another value", canon)
		}
		if canon != text {
			n++
		}
	})
	enough(t, "texts are not canonical", n, 1000)
}

func TestP75ComparingGoesBothWays(t *testing.T) {
	n := map[int]int{}
	eachTypedPair(t, func(t *testing.T, x, y impl.Typed) {
		got := impl.CompareTyped(x, y)
		n[got]++
		if x.Kind != y.Kind {
			if got != 2 || impl.CompareTyped(y, x) != 2 {
				t.Errorf("CompareTyped of two kinds = %d", got)
			}
			return
		}
		if got < -1 || got > 1 || impl.CompareTyped(y, x) != 0-got {
			t.Errorf("CompareTyped = %d, and %d the other way round", got, impl.CompareTyped(y, x))
		}
		if same := impl.TypedText(x) == impl.TypedText(y); same != (got == 0) {
			t.Errorf("CompareTyped = %d of %q and %q", got, impl.TypedText(x), impl.TypedText(y))
		}
	})
	enough(t, "values are less", n[-1], 5000)
	enough(t, "values are equal", n[0], 200)
}

func TestP76KindsHaveReadings(t *testing.T) {
	n := map[int]int{}
	for _, text := range typedTexts() {
		kinds := impl.KindsOf(text)
		n[len(kinds)]++
		if !slices.IsSorted(kinds) || len(slices.Compact(slices.Clone(kinds))) != len(kinds) {
			t.Fatalf("KindsOf(%q) = %v", text, kinds)
		}
		if impl.ValidValue(text) != slices.Contains(kinds, impl.TyText) {
			t.Fatalf("KindsOf(%q) = %v", text, kinds)
		}
		for kind := -1; kind < 8; kind++ {
			if _, ok := impl.ReadTyped(kind, text); ok != slices.Contains(kinds, kind) {
				t.Fatalf("ReadTyped(%d, %q) = %v; KindsOf = %v", kind, text, ok, kinds)
			}
		}
	}
	for many, least := range []int{1000, 1000, 5000, 1000, 200} {
		enough(t, "texts have "+strconv.Itoa(many)+" kinds", n[many], least)
	}
}

func TestP77NumbersAreSizes(t *testing.T) {
	n := 0
	for _, text := range typedTexts() {
		x, ok := impl.ReadTyped(impl.TyInt, text)
		size, found := impl.ReadTyped(impl.TySize, text)
		switch {
		case ok && x.Int >= 0:
			n++
			checkTyped(t, "ReadTyped of a size "+text, size, found, typedNumber(impl.TySize, x.Int), true)
		case ok && found:
			t.Errorf("ReadTyped(TySize, %q) = %+v", text, size)
		}
	}
	enough(t, "numbers are sizes", n, 200)
}

func TestP78SumsAreTakenApart(t *testing.T) {
	numbers, lists := 0, 0
	eachTypedPair(t, func(t *testing.T, x, y impl.Typed) {
		sum, ok := impl.AddTyped(x, y)
		if x.Kind == impl.TyText || x.Kind == impl.TyBool || x.Kind != y.Kind {
			checkTyped(t, "AddTyped", sum, ok, impl.Typed{}, false)
			return
		}
		back, fine := impl.AddTyped(y, x)
		if ok != fine {
			t.Errorf("AddTyped = %v, and %v the other way round", ok, fine)
		}
		if !ok {
			return
		}
		if x.Kind == impl.TyList {
			lists++
			at := len(x.Items)
			if !slices.Equal(sum.Items[:at], x.Items) || !slices.Equal(sum.Items[at:], y.Items) || len(back.Items) != len(sum.Items) {
				t.Errorf("AddTyped = %+v", sum)
			}
			return
		}
		numbers++
		checkTyped(t, "AddTyped", sum, ok, typedNumber(x.Kind, x.Int+y.Int), true)
		checkTyped(t, "AddTyped the other way round", back, fine, sum, true)
	})
	enough(t, "numbers have sums", numbers, 1000)
	enough(t, "lists have sums", lists, 1000)
}

func TestP79ConvertingKeepsTheText(t *testing.T) {
	n, others := 0, 0
	eachValue(t, func(t *testing.T, x impl.Typed) {
		for kind := range 6 {
			got, ok := impl.ConvertTyped(x, kind)
			if kind == x.Kind {
				checkTyped(t, "ConvertTyped to its own kind", got, ok, x, true)
			}
			if !ok {
				continue
			}
			if got.Kind != kind || !impl.SameValue(kind, impl.TypedText(got), impl.TypedText(x)) {
				t.Errorf("ConvertTyped = %+v", got)
			}
			if kind != x.Kind {
				n++
			}
			if impl.TypedText(got) != impl.TypedText(x) {
				others++
			}
		}
	})
	enough(t, "values are converted", n, 20000)
	enough(t, "values get other texts", others, 300)
}

func TestP80BoundsAreOfNumbers(t *testing.T) {
	in, out := 0, 0
	eachBounds(t, func(t *testing.T, x impl.Typed, low, high int) {
		if low > high {
			return
		}
		got, ok := impl.ClampTyped(x, low, high)
		is := ok && sameTyped(got, x)
		if impl.InBounds(x, low, high) != is {
			t.Errorf("InBounds = %v; ClampTyped = %+v", !is, got)
		}
		if !hasNumber(x.Kind) && (is || ok) {
			t.Errorf("ClampTyped = %+v", got)
		}
		if is {
			in++
		} else {
			out++
		}
	})
	enough(t, "values are in bounds", in, 5000)
	enough(t, "values are out of bounds", out, 5000)
}

func TestP81ClampedValuesAreInBounds(t *testing.T) {
	n := 0
	eachBounds(t, func(t *testing.T, x impl.Typed, low, high int) {
		got, ok := impl.ClampTyped(x, low, high)
		if !ok {
			return
		}
		if !impl.ValidTyped(got) || got.Kind != x.Kind || !impl.InBounds(got, low, high) {
			t.Errorf("ClampTyped = %+v", got)
		}
		again, ok := impl.ClampTyped(got, low, high)
		checkTyped(t, "ClampTyped twice", again, ok, got, true)
		if got.Int != x.Int {
			n++
		}
	})
	enough(t, "values are clamped", n, 5000)
}

func TestP82ItemsArePutOnce(t *testing.T) {
	added, there := 0, 0
	eachItem(t, func(t *testing.T, x impl.Typed, item string) {
		put, ok := impl.ListPut(x, item)
		if !ok {
			return
		}
		if !impl.ValidTyped(put) || !slices.Contains(put.Items, item) {
			t.Errorf("ListPut = %+v", put)
		}
		again, ok := impl.ListPut(put, item)
		checkTyped(t, "ListPut twice", again, ok, put, true)
		if slices.Contains(x.Items, item) {
			there++
			checkTyped(t, "ListPut of what is there", put, true, x, true)
			return
		}
		added++
		if put.Items[len(put.Items)-1] != item {
			t.Errorf("ListPut = %+v", put)
		}
		cut, ok := impl.ListCut(put, item)
		checkTyped(t, "ListCut after ListPut", cut, ok, x, true)
	})
	enough(t, "items are put", added, 500)
	enough(t, "items were there", there, 100)
}

// countOf returns how often a list has an item.
func countOf(items []string, item string) int {
	n := 0
	for _, have := range items {
		if have == item {
			n++
		}
	}
	return n
}

func TestP83ItemsAreCutAll(t *testing.T) {
	n, more := 0, 0
	eachItem(t, func(t *testing.T, x impl.Typed, item string) {
		cut, ok := impl.ListCut(x, item)
		if ok != (x.Kind == impl.TyList && slices.Contains(x.Items, item)) {
			t.Errorf("ListCut = %+v, %v", cut, ok)
		}
		if !ok {
			return
		}
		n++
		if len(x.Items)-len(cut.Items) > 1 {
			more++
		}
		if !impl.ValidTyped(cut) || slices.Contains(cut.Items, item) {
			t.Errorf("ListCut = %+v", cut)
		}
		for _, other := range x.Items {
			if other != item && countOf(cut.Items, other) != countOf(x.Items, other) {
				t.Errorf("ListCut = %+v", cut)
			}
		}
	})
	enough(t, "items are cut", n, 150)
	enough(t, "items are cut more than once", more, 20)
}

func TestP84ValuesAreTheSameByTheirCanonicalTexts(t *testing.T) {
	same, others, none := 0, 0, 0
	texts := append(edgeTexts(), "1000", "1k", "1m", "60s", "1h", "60m", "3600s", "a,b", "a, b", "a ,b", "", "0s", "0h", "0", "0g", "24h", "1d", "1000k", "1000000")
	for kind := -1; kind < 7; kind++ {
		for _, a := range texts {
			for _, b := range texts {
				x, ok := impl.CanonText(kind, a)
				y, fine := impl.CanonText(kind, b)
				want := ok && fine && x == y
				if impl.SameValue(kind, a, b) != want || impl.SameValue(kind, b, a) != want {
					t.Fatalf("SameValue(%d, %q, %q) is not %v both ways; CanonText = %q, %q", kind, a, b, want, x, y)
				}
				switch {
				case want && a != b:
					same++
				case ok && fine && !want:
					others++
				case !want && a == b:
					none++
				}
			}
		}
	}
	enough(t, "texts are the same", same, 100)
	enough(t, "texts are others", others, 5000)
	enough(t, "texts have no value", none, 500)
}
