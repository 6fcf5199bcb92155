package tests

import (
	"slices"
	"strings"
	"testing"

	"loop.example/settinglayers/impl"
)

func TestLimitsOfLayers(t *testing.T) {
	if impl.MaxEntries != 20 || impl.MaxLayers != 5 {
		t.Error("limits are not those of the document")
	}
	if impl.OpSet != 0 || impl.OpDrop != 1 || impl.OpAdd != 2 {
		t.Error("what entries do is not that of the document")
	}
}

// badEntries are entries that are not valid, each for one reason.
func badEntries() []impl.Entry {
	v41, n9 := strings.Repeat("v", 41), "abcdefghi"
	return []impl.Entry{
		{}, {Section: "a"}, {Section: "a", Value: "1"}, {Key: n9}, {Key: "X"}, {Key: "x "}, {Key: " x"}, {Key: "a.x"}, {Key: "x1"}, {Key: "é"}, {Key: "x\xff"}, {Key: "x\n"},
		{Section: n9, Key: "x"}, {Section: "A", Key: "x"}, {Section: " ", Key: "x"}, {Section: "a ", Key: "x"}, {Section: "[a]", Key: "x"}, {Section: "é", Key: "x"}, {Section: "\x00", Key: "x"},
		{Key: "x", Op: 3}, {Key: "x", Op: -1}, {Key: "x", Op: 1 << 40, Value: "1"}, {Section: "a", Key: "x", Op: 3},
		{Key: "x", Value: v41}, {Key: "x", Value: " "}, {Key: "x", Value: " 1"}, {Key: "x", Value: "1 "}, {Key: "x", Value: "1\n"}, {Key: "x", Value: "\t"}, {Key: "x", Value: "é"}, {Key: "x", Value: "\x7f"},
		{Key: "x", Op: impl.OpAdd, Value: v41}, {Key: "x", Op: impl.OpAdd, Value: " 1"}, {Key: "x", Op: impl.OpAdd, Value: "1\x00"},
		{Key: "x", Op: impl.OpDrop, Value: "1"}, {Key: "x", Op: impl.OpDrop, Value: " "}, {Section: "a", Key: "x", Op: impl.OpDrop, Value: v41},
	}
}

// badLayers are layers that are not valid, each for one reason.
func badLayers() []impl.Layer {
	list := []impl.Layer{
		lay("x=1", "x=1"), lay("x=1", "x=2"), lay("x-", "x+1"), lay("a.x=1", "x=2", "a.x=3"), both(manyKeys("b", 0, 19), lay("b.ka-")),
		manyKeys("b", 0, 21), both(manyKeys("b", 0, 20), lay("a.x=1")), both(lay("a.x=1"), manyKeys("b", 0, 26), manyKeys("c", 0, 26)),
		{Entries: slices.Repeat(lay("a.x=1").Entries, 1000)},
	}
	for _, e := range badEntries() {
		other := impl.Entry{Section: "abc", Key: "other"}
		list = append(list, impl.Layer{Entries: []impl.Entry{e}}, impl.Layer{Entries: []impl.Entry{other, e}}, impl.Layer{Entries: []impl.Entry{e, other}})
	}
	return list
}

func TestValidLayer(t *testing.T) {
	v40 := strings.Repeat("v", 40)
	for _, l := range []impl.Layer{
		{}, {Entries: []impl.Entry{}}, lay("x=1"), lay("x="), lay("x+"), lay("x-"), lay("x+1"), lay("abcdefgh.abcdefgh=" + v40), lay("abcdefgh.abcdefgh+" + v40), lay("a.b=1", "b.a=1"),
		lay("x=1", "a.x=1", "b.x=1", "x.x-", "x.a+1"), lay("base=~", "x.base=a, b"), lay("x=#", "y=[a]", "z=a  =  b"), manyKeys("", 0, 20), both(manyKeys("a", 0, 10), manyKeys("b", 0, 10)),
	} {
		if !impl.ValidLayer(l) {
			t.Errorf("ValidLayer(%+v) = false", l)
		}
	}
	for _, l := range badLayers() {
		if impl.ValidLayer(l) {
			t.Errorf("ValidLayer(%+v) = true", l)
		}
	}
	eachLayer(t, someLayers(), func(t *testing.T, l impl.Layer) {
		if !impl.ValidLayer(l) {
			t.Error("it is not valid")
		}
	})
}

// checkOtherStack checks that each function of stacks has its fixed result for one that is not valid.
func checkOtherStack(t *testing.T, stack []impl.Layer) {
	t.Helper()
	for _, p := range append(someSpots, spot{"a", "y"}, spot{"b", "ka"}) {
		if value, ok := impl.Resolve(stack, p.section, p.key); ok || value != "" {
			t.Errorf("Resolve(%+v, %+v) = %q, %v", stack, p, value, ok)
		}
		if why := impl.WhyValue(stack, p.section, p.key); len(why) != 0 {
			t.Errorf("WhyValue(%+v, %+v) = %v", stack, p, why)
		}
	}
	l, ok := impl.Flatten(stack)
	checkLayer(t, "Flatten", l, ok, nil, false)
}

// checkOtherPair checks that each function of two layers has its fixed result if one of them is not valid.
func checkOtherPair(t *testing.T, a, b impl.Layer) {
	t.Helper()
	l, ok := impl.MergeLayers(a, b)
	checkLayer(t, "MergeLayers", l, ok, nil, false)
	l, ok = impl.PatchLayers(a, b)
	checkLayer(t, "PatchLayers", l, ok, nil, false)
	l, ok = impl.UndoLayer(a, b)
	checkLayer(t, "UndoLayer", l, ok, nil, false)
	if impl.SameLayers(a, b) {
		t.Errorf("SameLayers(%+v, %+v) = true", a, b)
	}
	if l := impl.CommonLayer(a, b); len(l.Entries) != 0 {
		t.Errorf("CommonLayer(%+v, %+v) = %+v", a, b, l)
	}
}

func TestLayersThatAreNotValid(t *testing.T) {
	good := lay("a.x=1", "a.y=2", "k=3")
	for _, bad := range badLayers() {
		for _, other := range []impl.Layer{good, {}, bad, manyKeys("b", 0, 20)} {
			checkOtherPair(t, bad, other)
			checkOtherPair(t, other, bad)
			checkOtherStack(t, []impl.Layer{bad, other})
			checkOtherStack(t, []impl.Layer{other, bad})
		}
		checkOtherStack(t, []impl.Layer{bad})
		checkOtherStack(t, []impl.Layer{good, {}, good, good, bad})
		if impl.IsFlat(bad) || len(impl.LayerSections(bad)) != 0 {
			t.Errorf("%+v tells something", bad)
		}
		f, ok := impl.FileOf(bad)
		checkTurned(t, "FileOf", f, ok, "", false)
		for _, e := range append(slices.Clone(bad.Entries[:1]), lay("a.x=1", "q=1", "abc.other=").Entries...) {
			l, ok := impl.PutEntry(bad, e)
			checkLayer(t, "PutEntry", l, ok, nil, false)
			l, ok = impl.CutEntry(bad, e.Section, e.Key)
			checkLayer(t, "CutEntry", l, ok, nil, false)
			if l := impl.SectionOf(bad, e.Section); len(l.Entries) != 0 {
				t.Errorf("SectionOf(%+v, %q) = %+v", bad, e.Section, l)
			}
		}
	}
}

func TestStacksUpToTheLimit(t *testing.T) {
	stack := layers("x+5", "x+4", "x+3", "x+2", "x=1")
	if value, ok := impl.Resolve(stack, "", "x"); !ok || value != "1,2,3,4,5" {
		t.Errorf("Resolve in five layers = %q, %v", value, ok)
	}
	checkOtherStack(t, append(stack, impl.Layer{}))
	checkOtherStack(t, append([]impl.Layer{{}}, stack...))
	checkOtherStack(t, make([]impl.Layer, 6))
	checkOtherStack(t, slices.Repeat(layers("x=1"), 1000))
}

func TestLayersThatAreNotFlat(t *testing.T) {
	flat := lay("x=1", "a.x=2")
	for _, l := range layers("x+1", "x-", "x=1 a.x+2", "x- a.x=2") {
		for _, pair := range [][2]impl.Layer{{l, flat}, {flat, l}, {l, l}, {l, {}}, {{}, l}} {
			p, ok := impl.PatchLayers(pair[0], pair[1])
			checkLayer(t, "PatchLayers", p, ok, nil, false)
		}
		for _, top := range []impl.Layer{flat, l, {}} {
			u, ok := impl.UndoLayer(top, l)
			checkLayer(t, "UndoLayer", u, ok, nil, false)
		}
	}
}

func TestLayerOfFilesThatAreNotValid(t *testing.T) {
	base := parse(t, "[a]\n# n\nx=1\n").Lines
	for _, l := range badLines() {
		if got := impl.LayerOf(impl.File{Lines: append(slices.Clone(base), l)}); len(got.Entries) != 0 {
			t.Errorf("LayerOf with %+v = %+v", l, got)
		}
	}
	if got := impl.LayerOf(impl.File{Lines: append(slices.Clone(base), make([]impl.Line, 18)...)}); len(got.Entries) != 0 {
		t.Errorf("LayerOf 21 lines = %+v", got)
	}
}

// made returns what each function that makes a layer makes of two flat ones.
func made(t *testing.T, a, b impl.Layer) []impl.Layer {
	var list []impl.Layer
	add := func(l impl.Layer, ok bool) {
		if !ok || len(l.Entries) == 0 {
			t.Error("a function makes nothing")
		}
		list = append(list, l)
	}
	add(impl.MergeLayers(a, b))
	add(impl.MergeLayers(a, impl.Layer{}))
	add(impl.MergeLayers(impl.Layer{}, a))
	add(impl.Flatten([]impl.Layer{a}))
	add(impl.Flatten([]impl.Layer{a, b}))
	add(impl.PatchLayers(a, b))
	add(impl.PatchLayers(impl.Layer{}, b))
	add(impl.PutEntry(a, a.Entries[0]))
	add(impl.PutEntry(a, impl.Entry{Section: "new", Key: "x"}))
	add(impl.CutEntry(a, a.Entries[0].Section, a.Entries[0].Key))
	add(impl.CutEntry(a, a.Entries[2].Section, a.Entries[2].Key))
	add(impl.SectionOf(a, "a"), true)
	add(impl.UndoLayer(a, b))
	add(impl.CommonLayer(a, a), true)
	add(impl.CommonLayer(a, b), true)
	return list
}

func TestLayersShareNoMemory(t *testing.T) {
	wholeA := append(lay("a.x=1", "a.y=2", "a.z=3").Entries, make([]impl.Entry, 8)...)
	wholeB := append(lay("a.x=1", "a.y=5", "k=4").Entries, make([]impl.Entry, 8)...)
	a, b := impl.Layer{Entries: wholeA[:3]}, impl.Layer{Entries: wholeB[:3]}
	beforeA, beforeB := slices.Clone(wholeA), slices.Clone(wholeB)
	for i, l := range made(t, a, b) {
		if !slices.Equal(wholeA, beforeA) || !slices.Equal(wholeB, beforeB) {
			t.Fatalf("function %d changes a layer", i)
		}
		for j := range l.Entries[:cap(l.Entries)] {
			l.Entries[:cap(l.Entries)][j].Value = "changed"
		}
		if !slices.Equal(wholeA, beforeA) || !slices.Equal(wholeB, beforeB) {
			t.Fatalf("the layer of function %d shares memory with one before", i)
		}
	}
}

func TestCallsOfLayersKeepNothing(t *testing.T) {
	stack := layers("x+2 a.x-", "x=1 a.x=3", "b.y=4")
	before := layers("x+2 a.x-", "x=1 a.x=3", "b.y=4")
	for range 2 {
		why, sections, file := impl.WhyValue(stack, "", "x"), impl.LayerSections(stack[1]), impl.LayerOf(parse(t, "x=1\n"))
		flat, ok := impl.Flatten(stack)
		if !slices.Equal(why, []int{0, 1}) || !slices.Equal(sections, []string{"", "a"}) || !slices.Equal(file.Entries, lay("x=1").Entries) {
			t.Errorf("WhyValue = %v, LayerSections = %q, LayerOf = %+v", why, sections, file)
		}
		checkLayer(t, "Flatten", flat, ok, lay("b.y=4", "x=1,2").Entries, true)
		why[0], sections[0], file.Entries[0].Value, flat.Entries[0].Key = 7, "changed", "changed", "changed"
		for i := range stack {
			if !slices.Equal(stack[i].Entries, before[i].Entries) {
				t.Errorf("the stack is %+v", stack)
			}
		}
	}
}
