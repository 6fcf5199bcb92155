package tests

import (
	"slices"
	"strings"
	"testing"

	"loop.example/settinglayers/impl"
)

func TestBaseKey(t *testing.T) {
	if impl.BaseKey != "base" {
		t.Error("the key of bases is not that of the document")
	}
}

func TestBasesOfValues(t *testing.T) {
	for value, want := range map[string]string{
		"": "", ",": "", "b": "b", "b,c": "b c", "c,b": "c b", "b, c": "b c", "b ,c": "b c", "b   ,   c": "b c", ",b,": "b", "b,,c": "b c", ", b": "b", "b ,": "b",
		"b,b": "b", "b,c,b": "b c", "b, b ,b": "b", "b;c": "", "b c": "", "b c,d": "d", "b,B,c": "b c", "B": "", "b1,c": "c", "b.c,d": "d", "${b},c": "c", "$$,c": "c", "[b],c": "c", "b:,c": "c",
		"abcdefgh": "abcdefgh", "abcdefghi": "", "abcdefghi,b": "b", "b,abcdefghi,c": "b c", "a": "a", "a,a": "a", "base": "base", "q,r": "q r",
		"a,b,c,d,e,f,g,h,i,j,k,l,m,n,o,p,q,r,s,tu": "a b c d e f g h i j k l m n o p q r s tu",
	} {
		l := lay("b.base=x", "a.base="+value, "base=y", "a.x=z")
		checkTexts(t, "BasesOf "+value, impl.BasesOf(l, "a"), strings.Fields(want))
		checkTexts(t, "BasesOf another section", impl.BasesOf(l, "b"), []string{"x"})
		checkTexts(t, "BasesOf the section of no name", impl.BasesOf(l, ""), []string{"y"})
		for _, s := range []string{"c", "base", "x", "A", "a ", "a,b", "abcdefghi"} {
			checkTexts(t, "BasesOf a section that is not there", impl.BasesOf(l, s), nil)
		}
	}
	checkTexts(t, "BasesOf a section without bases", impl.BasesOf(lay("a.x=b", "b.base=c"), "a"), nil)
}

func TestInheritOrderOfSections(t *testing.T) {
	for told, want := range map[string]string{
		"":                                       "a",
		"a.x=1":                                  "a",
		"b.base=a":                               "a",
		"a.base=b":                               "a b",
		"a.base=A,1,b-c":                         "a",
		"a.base=b,c":                             "a b c",
		"a.base=b,c b.base=d c.base=e":           "a b d c e",
		"a.base=c,b b.base=d c.base=e":           "a c e b d",
		"a.base=b,c b.base=c c.base=d":           "a b c d",
		"a.base=b,c b.base=d c.base=d":           "a b d c",
		"a.base=b,c,d b.base=d d.base=c":         "a b d c",
		"a.base=a":                               "a",
		"a.base=a,b,a":                           "a b",
		"a.base=b b.base=a":                      "a b",
		"a.base=b,c b.base=a,c c.base=b":         "a b c",
		"a.base=b b.base=c c.base=b,d":           "a b c d",
		"a.base=b b.base=c c.base=d d.base=b,e":  "a b c d e",
		"a.base=b,X,c b.base=,":                  "a b c",
		"base=b":                                 "a",
		"a.base=base base.base=x x.base=base":    "a base x",
		"a.base=b,c b.base=d d.base=c,e c.base=": "a b d c e",
	} {
		l := lay(strings.Fields(told)...)
		checkTexts(t, "InheritOrder in "+told, impl.InheritOrder(l, "a"), strings.Fields(want))
		slices.Reverse(l.Entries)
		checkTexts(t, "InheritOrder from behind in "+told, impl.InheritOrder(l, "a"), strings.Fields(want))
	}
	l := lay("base=b,a", "b.base=c", "a.x=1")
	checkTexts(t, "InheritOrder of no name", impl.InheritOrder(l, ""), []string{"", "b", "c", "a"})
	for _, s := range append(otherSections(), "q", "base") {
		checkTexts(t, "InheritOrder of a section without entries", impl.InheritOrder(l, s), []string{s})
		checkTexts(t, "InheritOrder in nothing", impl.InheritOrder(impl.Layer{}, s), []string{s})
		if impl.IsCircular(l, s) || impl.IsCircular(impl.Layer{}, s) {
			t.Errorf("%q is circular", s)
		}
	}
}

func TestIsCircularOfSections(t *testing.T) {
	for told, want := range map[string]string{
		"":                               "",
		"a.base=b":                       "",
		"a.base=a":                       "a",
		"a.base=b,a":                     "a",
		"a.base=b b.base=a":              "a b",
		"a.base=b b.base=c":              "",
		"a.base=b b.base=b":              "b",
		"a.base=b b.base=c c.base=b":     "b c",
		"a.base=b b.base=c c.base=a":     "a b c",
		"a.base=b,c b.base=d c.base=d":   "",
		"a.base=b,c b.base=d c.base=d,a": "a c",
		"base=a a.base=b b.base=":        "",
		"base=a a.base=base base.base=a": "a base",
		"a.base=aa aa.base=a":            "a aa",
		"a.base=${a}":                    "",
	} {
		l := lay(strings.Fields(told)...)
		for _, s := range []string{"", "a", "b", "c", "d", "aa", "base", "A"} {
			if is := slices.Contains(strings.Fields(want), s); impl.IsCircular(l, s) != is {
				t.Errorf("IsCircular(%q, %q) = %v", told, s, !is)
			}
		}
	}
}

// ring returns the layer of n sections, each with the next one as its base, and the last one with a last text.
func ring(n int, last string) (impl.Layer, []string) {
	l, sections := impl.Layer{}, []string{}
	for i := range n {
		sections = append(sections, "s"+string(rune('a'+i)))
		l.Entries = append(l.Entries, impl.Entry{Section: sections[i], Key: "base", Value: "s" + string(rune('b'+i))})
	}
	l.Entries[n-1].Value = last
	return l, sections
}

func TestLongOrders(t *testing.T) {
	l, sections := ring(20, "sa")
	for i, s := range sections {
		want := append(slices.Clone(sections[i:]), sections[:i]...)
		checkTexts(t, "InheritOrder in a ring", impl.InheritOrder(l, s), want)
		if !impl.IsCircular(l, s) {
			t.Errorf("%s is not circular in a ring", s)
		}
	}
	l, sections = ring(20, "")
	for i, s := range sections {
		checkTexts(t, "InheritOrder in a row", impl.InheritOrder(l, s), sections[i:])
		checkTexts(t, "HeirsOf in a row", impl.HeirsOf(l, s), sections[:i])
		if impl.IsCircular(l, s) {
			t.Errorf("%s is circular in a row", s)
		}
	}
	// Each of 20 sections has all as its bases: there are very many ways, and one order.
	all := impl.Layer{}
	names := strings.Split("a,b,c,d,e,f,g,h,i,j,k,l,m,n,o,p,q,r,s,t", ",")
	for _, s := range names {
		all.Entries = append(all.Entries, impl.Entry{Section: s, Key: "base", Value: strings.Join(names, ",")})
	}
	soon(t, "InheritOrder", func() {
		checkTexts(t, "InheritOrder of all", impl.InheritOrder(all, "c"), append([]string{"c", "a", "b"}, names[3:]...))
		if !impl.IsCircular(all, "c") || len(impl.PruneSections(all).Entries) != 20 {
			t.Error("all are not bases of all")
		}
	})
}

func TestHeirsOfSections(t *testing.T) {
	l := lay("x=1", "d.base=c", "a.base=b, c", "b.base=d", "e.base=E,e,q", "f.base=f", "base=a")
	for s, want := range map[string][]string{"": nil, "a": {""}, "b": {"", "a"}, "c": {"", "d", "a", "b"}, "d": {"", "a", "b"}, "e": nil, "f": nil, "q": {"e"}, "E": nil, "base": nil} {
		checkTexts(t, "HeirsOf "+s, impl.HeirsOf(l, s), want)
	}
	ring := lay("a.base=b", "b.base=c", "c.base=a", "d.base=a", "c.x=1")
	checkTexts(t, "HeirsOf in a ring", impl.HeirsOf(ring, "b"), []string{"a", "c", "d"})
	checkTexts(t, "HeirsOf beside a ring", impl.HeirsOf(ring, "d"), nil)
	for _, s := range otherSections() {
		checkTexts(t, "HeirsOf what is no section", impl.HeirsOf(l, s), nil)
	}
}

func TestAddBase(t *testing.T) {
	l := lay("a.x=1", "a.base=b, c", "b.base=B,,e", "c.base=", "d.base=d,d")
	for _, c := range []struct{ s, b, at, want string }{
		{"a", "d", "a.base", "b,c,d"}, {"a", "a", "a.base", "b,c,a"}, {"a", "q", "a.base", "b,c,q"}, {"a", "abcdefgh", "a.base", "b,c,abcdefgh"}, {"a", "base", "a.base", "b,c,base"},
		{"b", "a", "b.base", "e,a"}, {"b", "b", "b.base", "e,b"}, {"c", "a", "c.base", "a"}, {"d", "a", "d.base", "d,a"}, {"", "a", "base", "a"}, {"e", "e", "e.base", "e"}, {"abcdefgh", "x", "abcdefgh.base", "x"},
	} {
		got, ok := impl.AddBase(l, c.s, c.b)
		want, _ := impl.PutEntry(l, lay(c.at + "=" + c.want).Entries[0])
		checkLayer(t, "AddBase "+c.b+" to "+c.s, got, ok, want.Entries, true)
	}
	for _, c := range [][2]string{{"a", "b"}, {"a", "c"}, {"b", "e"}, {"d", "d"}, {"a", ""}, {"a", "B"}, {"b", "B"}, {"a", "d,e"}, {"a", "d "}, {"a", " d"}, {"a", "abcdefghi"}, {"a", "d1"}, {"a", "é"}, {"a", "d\x00"}} {
		got, ok := impl.AddBase(l, c[0], c[1])
		checkLayer(t, "AddBase "+c[1]+" to "+c[0], got, ok, nil, false)
	}
	for _, s := range otherSections() {
		got, ok := impl.AddBase(l, s, "b")
		checkLayer(t, "AddBase to "+s, got, ok, nil, false)
	}
}

func TestAddBaseUpToTheLimits(t *testing.T) {
	long := "abcdefga,abcdefgb,abcdefgc,abcdefgd"
	got, ok := impl.AddBase(lay("a.base="+long), "a", "abcd")
	checkLayer(t, "AddBase up to 40 bytes", got, ok, lay("a.base="+long+",abcd").Entries, true)
	got, ok = impl.AddBase(lay("a.base="+long), "a", "abcde")
	checkLayer(t, "AddBase of one byte more", got, ok, nil, false)
	// What is no base makes room.
	got, ok = impl.AddBase(lay("a.base=abcdefga, abcdefgb , abcdefgc,X,abcdefgb"), "a", "abcdefgd")
	checkLayer(t, "AddBase behind what is no base", got, ok, lay("a.base="+long).Entries, true)
	got, ok = impl.AddBase(manyKeys("b", 0, 19), "a", "b")
	checkLayer(t, "AddBase up to 20 entries", got, ok, both(manyKeys("b", 0, 19), lay("a.base=b")).Entries, true)
	got, ok = impl.AddBase(manyKeys("b", 0, 20), "a", "b")
	checkLayer(t, "AddBase of one entry more", got, ok, nil, false)
	got, ok = impl.AddBase(both(manyKeys("b", 0, 19), lay("a.base=")), "a", "b")
	checkLayer(t, "AddBase in 20 entries", got, ok, both(manyKeys("b", 0, 19), lay("a.base=b")).Entries, true)
}

func TestDropBase(t *testing.T) {
	l := lay("a.base=b , X,c,  d,b", "b.base=e", "c.base=B,f,", "d.base=B", "base=a,b", "a.x=1", "e.base=g,g")
	for _, c := range []struct{ s, b, at, want string }{{"a", "b", "a.base", "c,d"}, {"a", "c", "a.base", "b,d"}, {"a", "d", "a.base", "b,c"}, {"", "a", "base", "b"}, {"", "b", "base", "a"}} {
		got, ok := impl.DropBase(l, c.s, c.b)
		want, _ := impl.PutEntry(l, lay(c.at + "=" + c.want).Entries[0])
		checkLayer(t, "DropBase "+c.b+" of "+c.s, got, ok, want.Entries, true)
	}
	for _, c := range [][2]string{{"b", "e"}, {"c", "f"}, {"e", "g"}} {
		got, ok := impl.DropBase(l, c[0], c[1])
		want, _ := impl.CutEntry(l, c[0], "base")
		checkLayer(t, "DropBase "+c[1]+" of "+c[0], got, ok, want.Entries, true)
	}
	for _, c := range [][2]string{{"a", "e"}, {"a", "X"}, {"a", ""}, {"a", "b,c"}, {"a", " b"}, {"a", "b "}, {"c", "B"}, {"c", ""}, {"d", "B"}, {"x", "a"}, {"A", "b"}, {"a ", "b"}, {"", ""}} {
		got, ok := impl.DropBase(l, c[0], c[1])
		checkLayer(t, "DropBase "+c[1]+" of "+c[0], got, ok, nil, false)
	}
	full := both(manyKeys("b", 0, 19), lay("a.base=b,c"))
	got, ok := impl.DropBase(full, "a", "b")
	checkLayer(t, "DropBase in 20 entries", got, ok, both(manyKeys("b", 0, 19), lay("a.base=c")).Entries, true)
	got, ok = impl.DropBase(got, "a", "c")
	checkLayer(t, "DropBase of the last one", got, ok, manyKeys("b", 0, 19).Entries, true)
}

func TestBasesInAllLayers(t *testing.T) {
	circles, added, dropped := 0, 0, 0
	eachLayer(t, baseLayers(), func(t *testing.T, l impl.Layer) {
		for _, s := range askedSections {
			checkTexts(t, "BasesOf "+s, impl.BasesOf(l, s), wantBases(l, s))
			checkTexts(t, "InheritOrder of "+s, impl.InheritOrder(l, s), wantInherit(l, s, nil))
			checkTexts(t, "HeirsOf "+s, impl.HeirsOf(l, s), wantHeirs(l, s))
			circular := impl.IsCircular(l, s)
			if circular {
				circles++
			}
			if circular != wantCircular(l, s) {
				t.Errorf("IsCircular(%q) = %v", s, circular)
			}
		}
		for _, c := range [][2]string{{"", "a"}, {"a", "a"}, {"a", "b"}, {"b", "a"}, {"b", "c"}, {"c", "A"}, {"c", "q"}, {"d", "abcdefgh"}, {"abcdefgh", "abcdefgh"}, {"q", "q"}, {"A", "a"}, {"a", ""}} {
			got, ok := impl.AddBase(l, c[0], c[1])
			want, wantOK := wantAdded(l, c[0], c[1])
			if checkLayer(t, "AddBase", got, ok, want, wantOK); ok {
				added++
			}
			got, ok = impl.DropBase(l, c[0], c[1])
			want, wantOK = wantDropped(l, c[0], c[1])
			if checkLayer(t, "DropBase", got, ok, want, wantOK); ok {
				dropped++
			}
		}
	})
	if circles < 2000 || added < 2000 || dropped < 2000 {
		t.Errorf("just %d circles, %d bases added, and %d dropped", circles, added, dropped)
	}
}

// notFlat are layers that are not flat, or not valid, with bases.
func notFlat() []impl.Layer {
	list := append(badLayers(), layers("a.base+b b.x=1", "a.base=b b.x+1", "a.base=b b.x=1 c.y-", "a.base- a.x=1", "a.base=b b.x=1 a.base=b", "a.base=a,b a.x=1 b.x=1 q.base+a")...)
	bases := lay("a.base=b", "b.x=1", "a.x=1", "b.base=a")
	for _, e := range badEntries() {
		list = append(list, both(bases, impl.Layer{Entries: []impl.Entry{e}}))
	}
	return append(list, both(bases, manyKeys("b", 0, 17)), lay("a.base=b ", "b.x=1"), lay("a.base="+strings.Repeat("b", 41), "b.x=1"))
}

func TestBasesInOtherLayers(t *testing.T) {
	for _, other := range notFlat() {
		for _, s := range []string{"", "a", "b", "q", "A", "abc"} {
			checkTexts(t, "BasesOf", impl.BasesOf(other, s), nil)
			checkTexts(t, "InheritOrder", impl.InheritOrder(other, s), nil)
			checkTexts(t, "HeirsOf", impl.HeirsOf(other, s), nil)
			checkTexts(t, "KeysInherited", impl.KeysInherited(other, s), nil)
			checkTexts(t, "RedundantIn", impl.RedundantIn(other, s), nil)
			if impl.IsCircular(other, s) {
				t.Errorf("IsCircular(%+v, %q) = true", other, s)
			}
			for _, b := range []string{"a", "b", "q", ""} {
				got, ok := impl.AddBase(other, s, b)
				checkLayer(t, "AddBase", got, ok, nil, false)
				got, ok = impl.DropBase(other, s, b)
				checkLayer(t, "DropBase", got, ok, nil, false)
			}
			for _, key := range []string{"x", "base", "no", "ka", "other", "", "X"} {
				from, ok := impl.SourceOf(other, s, key)
				checkFound(t, "SourceOf", from, ok, "", false)
				value, ok := impl.LookInherited(other, s, key)
				checkFound(t, "LookInherited", value, ok, "", false)
				made, how := impl.ExpandInherited(other, s, key)
				checkMade(t, "ExpandInherited", made, how, "", impl.ExBad)
			}
		}
		got, ok := impl.FlattenSections(other)
		checkLayer(t, "FlattenSections", got, ok, nil, false)
		if got := impl.PruneSections(other); len(got.Entries) != 0 {
			t.Errorf("PruneSections(%+v) = %+v", other, got)
		}
	}
}

func TestBasesShareNoMemory(t *testing.T) {
	whole := append(lay("a.base=b,c", "a.x=1", "b.x=1", "c.y=2").Entries, make([]impl.Entry, 8)...)
	before := slices.Clone(whole)
	l := impl.Layer{Entries: whole[:4]}
	for range 2 {
		lists := [][]string{impl.BasesOf(l, "a"), impl.InheritOrder(l, "a"), impl.KeysInherited(l, "a"), impl.HeirsOf(l, "b"), impl.RedundantIn(l, "a")}
		for i, want := range [][]string{{"b", "c"}, {"a", "b", "c"}, {"x", "y"}, {"a"}, {"x"}} {
			checkTexts(t, "a function", lists[i], want)
			for j := range lists[i][:cap(lists[i])] {
				lists[i][:cap(lists[i])][j] = "changed"
			}
		}
		flat, _ := impl.FlattenSections(l)
		more, _ := impl.AddBase(l, "a", "d")
		other, _ := impl.AddBase(l, "b", "d")
		less, _ := impl.DropBase(l, "a", "c")
		none, _ := impl.DropBase(impl.Layer{Entries: more.Entries[:4]}, "a", "d")
		for i, got := range []impl.Layer{flat, more, other, less, none, impl.PruneSections(l), impl.PruneSections(impl.Layer{Entries: whole[2:4]})} {
			if len(got.Entries) < 2 {
				t.Fatalf("function %d makes %+v", i, got)
			}
			for j := range got.Entries[:cap(got.Entries)] {
				got.Entries[:cap(got.Entries)][j].Value = "changed"
			}
		}
		if !slices.Equal(whole, before) {
			t.Fatalf("the layer is %+v", whole)
		}
	}
}
