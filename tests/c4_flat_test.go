package tests

import (
	"slices"
	"strings"
	"testing"

	"loop.example/settinglayers/impl"
)

func TestFlattenSectionsInOrder(t *testing.T) {
	for told, want := range map[string]string{
		"":                                  "",
		"a.x=1":                             "a.x=1",
		"a.base=b":                          "",
		"a.base=b b.x=1":                    "a.x=1 b.x=1",
		"b.x=1 a.base=b":                    "b.x=1 a.x=1",
		"a.base=b a.x=1 b.x=2 b.y=3":        "a.x=1 a.y=3 b.x=2 b.y=3",
		"b.y=3 a.z=1 b.x=2 a.base=b":        "b.y=3 b.x=2 a.z=1 a.y=3 a.x=2",
		"a.base=b b.base=a a.x=1 b.y=2":     "a.x=1 a.y=2 b.y=2 b.x=1",
		"a.base=a a.x=${y}":                 "a.x=${y}",
		"a.base=c,b b.x=1 c.x=2 c.y=3":      "a.x=2 a.y=3 b.x=1 c.x=2 c.y=3",
		"base=b b.x=1 x=2 b.y=3":            "x=2 y=3 b.x=1 b.y=3",
		"a.base=B,q a.x=1":                  "a.x=1",
		"a.base=b b.y=${w} b.w=1":           "a.y=${b:w} a.w=1 b.y=${w} b.w=1",
		"a.base=b b.y=${a:w}${:w}$$":        "a.y=${w}${:w}$$ b.y=${a:w}${:w}$$",
		"base=b b.y=${:w}${w}":              "y=${w}${b:w} b.y=${:w}${w}",
		"a.base=b b.y=$ b.x=${":             "a.y=$ a.x=${ b.y=$ b.x=${",
		"a.base=b a.y=${a:x} b.y=${b:x}":    "a.y=${x} b.y=${x}",
		"a.base=b b.base=c c.y=${w}${a:w}":  "a.y=${c:w}${w} b.y=${c:w}${a:w} c.y=${w}${a:w}",
		"a.base=b b.y=${base}":              "a.y=${b:base} b.y=${base}",
		"a.base=b b.base=b,c c.base=d d.x=": "a.x= b.x= c.x= d.x=",
	} {
		got, ok := impl.FlattenSections(lay(strings.Fields(told)...))
		checkLayer(t, "FlattenSections of "+told, got, ok, lay(strings.Fields(want)...).Entries, true)
	}
}

func TestFlattenSectionsUpToTheLimits(t *testing.T) {
	got, ok := impl.FlattenSections(both(manyKeys("b", 0, 10), lay("a.base=b")))
	checkLayer(t, "FlattenSections up to 20 entries", got, ok, both(manyKeys("b", 0, 10), manyKeys("a", 0, 10)).Entries, true)
	got, ok = impl.FlattenSections(both(manyKeys("b", 0, 10), lay("a.base=b", "a.x=1")))
	checkLayer(t, "FlattenSections of one entry more", got, ok, nil, false)
	got, ok = impl.FlattenSections(both(manyKeys("b", 0, 15), lay("a.base=b", "c.base=a", "d.base=c", "e.base=d", "f.base=e")))
	checkLayer(t, "FlattenSections of far more entries", got, ok, nil, false)
	got, ok = impl.FlattenSections(both(manyKeys("b", 0, 19), lay("b.base=b")))
	checkLayer(t, "FlattenSections of 20 entries", got, ok, manyKeys("b", 0, 19).Entries, true)
	got, ok = impl.FlattenSections(manyKeys("b", 0, 20))
	checkLayer(t, "FlattenSections of 20 entries without bases", got, ok, manyKeys("b", 0, 20).Entries, true)
	// Retold from b into a each reference gets two bytes more, and into abcdefgh three less.
	v34, v40 := strings.Repeat("v", 34), strings.Repeat("w", 40)
	got, ok = impl.FlattenSections(lay("a.base=b", "b.x="+v34+"${y}"))
	checkLayer(t, "FlattenSections up to 40 bytes", got, ok, lay("a.x="+v34+"${b:y}", "b.x="+v34+"${y}").Entries, true)
	got, ok = impl.FlattenSections(lay("a.base=b", "b.x=1"+v34+"${y}"))
	checkLayer(t, "FlattenSections of one byte more", got, ok, nil, false)
	got, ok = impl.FlattenSections(lay("a.base=b", "b.x="+v40))
	checkLayer(t, "FlattenSections of 40 bytes", got, ok, lay("a.x="+v40, "b.x="+v40).Entries, true)
	got, ok = impl.FlattenSections(lay("a.base=b", "a.x=1", "b.x=1"+v34+"${y}"))
	checkLayer(t, "FlattenSections of what nobody inherits", got, ok, lay("a.x=1", "b.x=1"+v34+"${y}").Entries, true)
}

func TestRedundantInSections(t *testing.T) {
	for told, want := range map[string]string{
		"":                              "",
		"a.x=1":                         "",
		"a.x=1 b.x=1":                   "",
		"a.base=b a.x=1":                "",
		"a.base=b a.x=1 b.x=1":          "x",
		"a.base=b a.x=1 b.x=2":          "",
		"a.base=b a.x= b.x=":            "x",
		"a.base=b a.x= b.y=":            "",
		"a.base=b,c a.x=1 b.x=2 c.x=1":  "",
		"a.base=b,c a.x=1 c.x=1":        "x",
		"a.base=b,c a.x=1 b.x=1 c.x=2":  "x",
		"a.base=b b.base=c a.x=1 c.x=1": "x",
		"a.z=3 a.x=1 a.y=2 a.base=b b.y=2 b.z=3 b.x=0": "z y",
		"a.base=a a.x=1":                        "",
		"a.base=b b.base=a a.x=1 b.x=1":         "x",
		"a.base=b b.base=b":                     "",
		"a.base=a,b b.base=a,b":                 "",
		"b.base=a a.x=1 b.x=1":                  "",
		"a.base=b a.y=${b:w} b.y=${w}":          "y",
		"a.base=b a.y=${w} b.y=${w}":            "",
		"a.base=b a.y=${w} b.y=${a:w}":          "y",
		"a.base=b a.y=${a:w} b.y=${a:w}":        "",
		"a.base=b a.y=${w} b.y=${b:w}":          "",
		"a.base=b a.y=${:w}$$ b.y=${:w}$$":      "y",
		"a.base=b a.y=$ b.y=$":                  "y",
		"a.base=b a.y=${w}$ b.y=${w}$":          "y",
		"a.base=b a.y=${c:w}$ b.y=${c:w}":       "",
		"a.base=b b.base=c a.y=${c:w} c.y=${w}": "y",
		"a.base=b b.base=c a.y=${b:w} c.y=${w}": "",
	} {
		checkTexts(t, "RedundantIn "+told, impl.RedundantIn(lay(strings.Fields(told)...), "a"), strings.Fields(want))
	}
	l := lay("base=b", "x=1", "b.x=1", "y=${b:y}", "b.y=${y}")
	checkTexts(t, "RedundantIn the section of no name", impl.RedundantIn(l, ""), []string{"x", "y"})
	for _, s := range append(otherSections(), "b", "q", "base") {
		checkTexts(t, "RedundantIn "+s, impl.RedundantIn(l, s), nil)
	}
	// Retold from b into a it would have 41 bytes: no value is this one.
	long := lay("a.base=b", "a.x="+strings.Repeat("v", 34)+"${b:y}", "b.x="+strings.Repeat("v", 34)+"${y}")
	checkTexts(t, "RedundantIn up to 40 bytes", impl.RedundantIn(long, "a"), []string{"x"})
	long.Entries[2].Value = "v" + long.Entries[2].Value
	checkTexts(t, "RedundantIn of one byte more", impl.RedundantIn(long, "a"), nil)
}

func TestPruneSectionsOneAfterTheOther(t *testing.T) {
	for told, want := range map[string]string{
		"":                              "",
		"a.x=1 b.x=1":                   "a.x=1 b.x=1",
		"a.base=b a.x=1 b.x=1":          "a.base=b b.x=1",
		"b.x=1 a.x=1 a.y=2 a.base=b":    "b.x=1 a.y=2 a.base=b",
		"a.base=b b.base=a a.x=1 b.x=1": "a.base=b b.base=a b.x=1",
		"b.x=1 a.x=1 a.base=b b.base=a": "a.x=1 a.base=b b.base=a",
		"a.base=b b.base=c c.base=a a.x=1 b.x=1 c.x=1":                "a.base=b b.base=c c.base=a c.x=1",
		"a.base=b b.base=c a.x=1 b.x=1 c.x=1":                         "a.base=b b.base=c c.x=1",
		"c.x=1 b.x=1 a.x=1 a.base=b b.base=c":                         "c.x=1 a.base=b b.base=c",
		"a.base=b,c b.base=d a.x=1 b.x=1 c.x=1 d.x=1":                 "a.base=b,c b.base=d c.x=1 d.x=1",
		"a.base=b,c a.x=2 b.x=1 c.x=2 b.base=c":                       "a.base=b,c a.x=2 b.x=1 c.x=2 b.base=c",
		"a.base=a,b b.base=b a.y=${b:w} b.y=${w}":                     "a.base=a,b b.base=b b.y=${w}",
		"b.x=1 b.base=c c.x=1 base=b x=1 a.base=,b a.x=1 a.y=1 b.y=2": "b.base=c c.x=1 base=b a.base=,b a.y=1 b.y=2",
		"b.base=a a.base=c b.x=2 a.x=1 c.x=1 d.base=b":                "b.base=a a.base=c b.x=2 c.x=1 d.base=b",
		"a.base=b b.base=c a.x=2 b.x=2 c.x=2 a.y=3":                   "a.base=b b.base=c c.x=2 a.y=3",
	} {
		got := impl.PruneSections(lay(strings.Fields(told)...))
		checkLayer(t, "PruneSections of "+told, got, true, lay(strings.Fields(want)...).Entries, true)
	}
	got := impl.PruneSections(both(lay("a.base=b"), manyKeys("a", 0, 9), manyKeys("b", 0, 10)))
	checkLayer(t, "PruneSections of 20 entries", got, true, both(lay("a.base=b"), manyKeys("b", 0, 10)).Entries, true)
}

func TestFlatSectionsInAllLayers(t *testing.T) {
	flat, long, redundant, once := 0, 0, 0, 0
	eachLayer(t, baseLayers(), func(t *testing.T, l impl.Layer) {
		got, ok := impl.FlattenSections(l)
		want, wantOK := wantFlatSections(l)
		if checkLayer(t, "FlattenSections", got, ok, want, wantOK); ok && !slices.Equal(want, l.Entries) {
			flat++
		} else if !ok {
			long++
		}
		all := 0
		for _, s := range askedSections {
			keys := impl.RedundantIn(l, s)
			checkTexts(t, "RedundantIn "+s, keys, wantRedundant(l, s))
			all += len(keys)
		}
		pruned := impl.PruneSections(l)
		checkLayer(t, "PruneSections", pruned, true, wantPruned(l), true)
		if redundant += all; len(pruned.Entries) != len(l.Entries)-all {
			once++
		}
	})
	if flat < 1000 || long < 60 || redundant < 1000 || once < 100 {
		t.Errorf("just %d layers get flat, and %d too long; %d keys are redundant, and in %d layers not all of them together", flat, long, redundant, once)
	}
}
