package tests

import (
	"slices"
	"strings"
	"testing"

	"loop.example/settinglayers/impl"
)

func TestLayerOfFiles(t *testing.T) {
	for s, want := range map[string]string{
		"":                          "",
		"# n\n\n[a]\n":              "",
		"x=1\nx= 2 \n":              "x=2",
		"[a]\nx=\n":                 "a.x=",
		"k=1\n[b]\nx=2\n[a]\nx=3\n": "k=1 b.x=2 a.x=3",
		"[a]\nx=1\ny=2\n[b]\nx=3\n[a]\nz=4\nx=5\n": "a.x=5 a.y=2 a.z=4 b.x=3",
	} {
		checkLayer(t, "LayerOf", impl.LayerOf(parse(t, s)), true, layers(want)[0].Entries, true)
	}
	l := impl.LayerOf(parse(t, "x = a = b  c \n[abcdefgh]\nabcdefgh="+strings.Repeat("v", 40)+"\n"))
	checkLayer(t, "LayerOf", l, true, lay("x=a = b  c", "abcdefgh.abcdefgh="+strings.Repeat("v", 40)).Entries, true)
	text := ""
	for _, e := range manyKeys("", 0, 20).Entries {
		text += e.Key + "=1\n"
	}
	checkLayer(t, "LayerOf 20 lines", impl.LayerOf(parse(t, text)), true, manyKeys("", 0, 20).Entries, true)
}

func TestLayerOfAllFiles(t *testing.T) {
	eachFile(t, func(t *testing.T, f impl.File, rows []row) {
		var want []impl.Entry
		for _, s := range wantSections(rows) {
			for _, key := range wantKeys(rows, s) {
				want = append(want, impl.Entry{Section: s, Key: key, Value: wantMeaning(rows)[[2]string{s, key}]})
			}
		}
		checkLayer(t, "LayerOf", impl.LayerOf(f), true, want, true)
	})
}

func TestIsFlat(t *testing.T) {
	for s, want := range map[string]bool{
		"": true, "x=1": true, "x=": true, "x=1 a.x=2 b.y=": true,
		"x+1": false, "x-": false, "x+": false, "x=1 y+1": false, "x- y=1": false, "x=1 y- z=1": false,
	} {
		if got := impl.IsFlat(layers(s)[0]); got != want {
			t.Errorf("IsFlat(%q) = %v", s, got)
		}
	}
	if !impl.IsFlat(manyKeys("a", 0, 20)) || impl.IsFlat(manyKeys("a", 0, 21)) {
		t.Error("IsFlat has not up to 20 entries")
	}
}

func TestFileOfLayers(t *testing.T) {
	for s, want := range map[string]string{
		"":                                   "",
		"x=1":                                "x = 1\n",
		"x=":                                 "x = \n",
		"a.x=":                               "[a]\nx = \n",
		"b.x=1 y=2 a.x=3":                    "y = 2\n[b]\nx = 1\n[a]\nx = 3\n",
		"b.z=1 y=2 a.x=3 b.x=4 x=5 a.b=6":    "y = 2\nx = 5\n[b]\nz = 1\nx = 4\n[a]\nx = 3\nb = 6\n",
		"a.a=1 a=2 abcdefgh.abcdefgh=[#=,]=": "a = 2\n[a]\na = 1\n[abcdefgh]\nabcdefgh = [#=,]=\n",
	} {
		f, ok := impl.FileOf(layers(s)[0])
		checkTurned(t, "FileOf "+s, f, ok, want, true)
	}
	for _, s := range []string{"x+1", "x-", "x=1 y+1", "a.x- a.y=1"} {
		f, ok := impl.FileOf(layers(s)[0])
		checkTurned(t, "FileOf "+s, f, ok, "", false)
	}
}

func TestFileOfUpToTheLimit(t *testing.T) {
	tens := impl.Layer{}
	for _, e := range manyKeys("", 0, 10).Entries {
		tens.Entries = append(tens.Entries, impl.Entry{Section: e.Key, Key: "x"})
	}
	for _, c := range []struct {
		l  impl.Layer
		ok bool
	}{
		{manyKeys("", 0, 20), true}, {manyKeys("a", 0, 19), true}, {manyKeys("a", 0, 20), false},
		{both(manyKeys("", 0, 10), manyKeys("a", 0, 9)), true}, {both(manyKeys("", 0, 10), manyKeys("a", 0, 10)), false},
		{both(manyKeys("a", 0, 9), manyKeys("", 0, 10)), true}, {both(manyKeys("a", 0, 10), manyKeys("", 0, 10)), false},
		{both(manyKeys("a", 0, 9), manyKeys("b", 0, 9)), true}, {both(manyKeys("a", 0, 9), manyKeys("b", 0, 10)), false},
		{tens, true}, {both(tens, lay("y=")), false}, {both(tens, lay("z.y=")), false},
	} {
		want, _ := wantFileText(c.l)
		f, ok := impl.FileOf(c.l)
		checkTurned(t, "FileOf", f, ok, want, c.ok)
	}
}

func TestFileOfAllLayers(t *testing.T) {
	eachLayer(t, flatLayers(), func(t *testing.T, l impl.Layer) {
		want, wantOK := wantFileText(l)
		f, ok := impl.FileOf(l)
		checkTurned(t, "FileOf", f, ok, want, wantOK)
	})
}

func TestSameLayersAndCommonLayer(t *testing.T) {
	for _, c := range [][3]string{
		{"", "", ""}, {"x=1", "x=1", "x=1"}, {"x=1 a.x-", "a.x- x=1", "x=1 a.x-"}, {"x+ y= z-", "z- y= x+", "x+ y= z-"},
		{"x=1", "", ""}, {"x=1", "x=2", ""}, {"x=1", "x+1", ""}, {"x=", "x-", ""}, {"x+", "x=", ""}, {"x=1", "a.x=1", ""}, {"x=1", "y=1", ""},
		{"x=1 y=2", "x=1", "x=1"}, {"x=1 y=2", "y=3 x=1", "x=1"}, {"a.x=1 b.x=2", "a.x=2 b.x=1", ""}, {"x=1 y+2 z-", "z- y+3 w=1", "z-"},
		{"d=1 c=1 b=1 a=1", "a=1 b=2 c=1 d=1 e=1", "d=1 c=1 a=1"},
	} {
		l := layers(c[0], c[1], c[2])
		same := len(l[0].Entries) == len(l[2].Entries) && len(l[1].Entries) == len(l[2].Entries)
		if impl.SameLayers(l[0], l[1]) != same || impl.SameLayers(l[1], l[0]) != same {
			t.Errorf("SameLayers(%q, %q) is not %v both ways", c[0], c[1], same)
		}
		checkLayer(t, "CommonLayer of "+c[0]+" and "+c[1], impl.CommonLayer(l[0], l[1]), true, l[2].Entries, true)
	}
	full, turned := manyKeys("a", 0, 20), manyKeys("a", 0, 20)
	slices.Reverse(turned.Entries)
	if !impl.SameLayers(full, turned) || impl.SameLayers(full, manyKeys("a", 0, 19)) || impl.SameLayers(full, manyKeys("b", 0, 20)) {
		t.Error("SameLayers of 20 entries")
	}
	checkLayer(t, "CommonLayer of 20 entries", impl.CommonLayer(full, turned), true, full.Entries, true)
}

func TestSameLayersAndCommonLayerOfAllPairs(t *testing.T) {
	eachPair(t, someLayers(), someLayers(), func(t *testing.T, a, b impl.Layer) {
		if got := impl.SameLayers(a, b); got != sameSet(a.Entries, b.Entries) {
			t.Errorf("SameLayers = %v", got)
		}
		want := slices.DeleteFunc(slices.Clone(a.Entries), func(e impl.Entry) bool { return !slices.Contains(b.Entries, e) })
		checkLayer(t, "CommonLayer", impl.CommonLayer(a, b), true, want, true)
	})
}

func TestPutEntry(t *testing.T) {
	for _, c := range [][3]string{
		{"", "x=1", "x=1"}, {"", "a.x-", "a.x-"}, {"x=1", "x=1", "x=1"}, {"x=1", "x+2", "x+2"}, {"x=1", "x-", "x-"}, {"x-", "x=", "x="},
		{"x=1", "a.x=1", "x=1 a.x=1"}, {"a.x=1", "x=2", "a.x=1 x=2"}, {"a.b=1", "b.a=2", "a.b=1 b.a=2"},
		{"x=1 y+2 z-", "y-", "x=1 y- z-"}, {"x=1 y+2 z-", "x+", "x+ y+2 z-"}, {"x=1 y+2 z-", "z=9", "x=1 y+2 z=9"}, {"x=1 y+2 z-", "w=9", "x=1 y+2 z- w=9"},
	} {
		l := layers(c[0], c[1], c[2])
		got, ok := impl.PutEntry(l[0], l[1].Entries[0])
		checkLayer(t, "PutEntry of "+c[1]+" in "+c[0], got, ok, l[2].Entries, true)
	}
	l, ok := impl.PutEntry(manyKeys("a", 0, 19), lay("a.kt=1").Entries[0])
	checkLayer(t, "PutEntry of the last one", l, ok, manyKeys("a", 0, 20).Entries, true)
	l, ok = impl.PutEntry(manyKeys("a", 0, 20), lay("a.ku=1").Entries[0])
	checkLayer(t, "PutEntry of one more", l, ok, nil, false)
	l, ok = impl.PutEntry(manyKeys("a", 0, 20), lay("a.kt-").Entries[0])
	checkLayer(t, "PutEntry of another one", l, ok, both(manyKeys("a", 0, 19), lay("a.kt-")).Entries, true)
}

func TestPutEntryThatIsNotValid(t *testing.T) {
	for _, e := range badEntries() {
		for _, l := range []impl.Layer{{}, lay("x=1"), lay("a.x=1", "x+2", "y=3"), {Entries: []impl.Entry{{Section: e.Section, Key: "x"}}}} {
			got, ok := impl.PutEntry(l, e)
			checkLayer(t, "PutEntry of one that is not valid", got, ok, nil, false)
		}
	}
}

func TestCutEntry(t *testing.T) {
	for _, c := range [][4]string{
		{"x=1", "", "x", ""}, {"x=1 a.x=2", "", "x", "a.x=2"}, {"x=1 a.x=2", "a", "x", "x=1"},
		{"x=1 y- z+3", "", "y", "x=1 z+3"}, {"x=1 y- z+3", "", "x", "y- z+3"}, {"x=1 y- z+3", "", "z", "x=1 y-"},
	} {
		l := layers(c[0], c[3])
		got, ok := impl.CutEntry(l[0], c[1], c[2])
		checkLayer(t, "CutEntry of "+c[0], got, ok, l[1].Entries, true)
	}
	for _, c := range [][3]string{
		{"", "", "x"}, {"x=1", "a", "x"}, {"a.x=1", "", "x"}, {"a.x=1", "x", "a"}, {"x=1", "", "y"}, {"x=1", "", ""}, {"x=1", "", "X"}, {"x=1", "A", "x"}, {"a.x=1", "a", ""},
	} {
		got, ok := impl.CutEntry(layers(c[0])[0], c[1], c[2])
		checkLayer(t, "CutEntry of one that is not there", got, ok, nil, false)
	}
}

func TestSectionOfAndLayerSections(t *testing.T) {
	l := lay("b.x=1", "y-", "a.x+2", "b.z-", "x=3", "base.x=")
	for s, want := range map[string]string{
		"": "y- x=3", "a": "a.x+2", "b": "b.x=1 b.z-", "base": "base.x=", "c": "", "x": "", "A": "", " ": "",
	} {
		checkLayer(t, "SectionOf "+s, impl.SectionOf(l, s), true, layers(want)[0].Entries, true)
	}
	for s, want := range map[string][]string{
		"": nil, "x=1": {""}, "a.x-": {"a"}, "a.x=1 a.y+1 a.z-": {"a"}, "a.x=1 x=1 a.y=1": {"a", ""}, "c.x=1 a.x=1 c.y=1 b.x=1": {"c", "a", "b"},
	} {
		if got := impl.LayerSections(layers(s)[0]); !slices.Equal(got, want) {
			t.Errorf("LayerSections(%q) = %q", s, got)
		}
	}
	if got := impl.LayerSections(l); !slices.Equal(got, []string{"b", "", "a", "base"}) {
		t.Errorf("LayerSections = %q", got)
	}
	checkLayer(t, "SectionOf of nothing", impl.SectionOf(impl.Layer{}, ""), true, nil, true)
}
