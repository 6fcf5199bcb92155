package tests

import (
	"slices"
	"strings"
	"testing"

	"loop.example/settinglayers/impl"
)

// layersOf returns three layers told as by lay, with spaces between their entries.
func layersOf(base, a, b string) (impl.Layer, impl.Layer, impl.Layer) {
	three := layers(base, a, b)
	return three[0], three[1], three[2]
}

func TestMerge3OfOneKey(t *testing.T) {
	for _, c := range []struct{ base, a, b, want, conflicts string }{
		{"", "", "", "", ""},
		{"x=1", "x=1", "x=1", "x=1", ""},
		{"x=1", "x=2", "x=1", "x=2", ""},
		{"x=1", "x=1", "x=2", "x=2", ""},
		{"x=1", "x=2", "x=2", "x=2", ""},
		{"x=1", "x=2", "x=3", "x=2", "x"},
		{"x=1", "", "x=1", "", ""},
		{"x=1", "x=1", "", "", ""},
		{"x=1", "", "", "", ""},
		{"x=1", "", "x=2", "", "x"},
		{"x=1", "x=2", "", "x=2", "x"},
		{"", "x=1", "", "x=1", ""},
		{"", "", "x=1", "x=1", ""},
		{"", "x=1", "x=1", "x=1", ""},
		{"", "x=1", "x=2", "x=1", "x"},
		{"x=", "", "x=", "", ""},
		{"x=1", "x=", "x=1", "x=", ""},
		{"x=1", "x=", "", "x=", "x"},
		{"x=1", "", "x=", "", "x"},
		{"", "x=", "", "x=", ""},
		{"", "x=", "x=1", "x=", "x"},
		{"x=", "x=1", "", "x=1", "x"},
		{"x=1", "a.x=1", "x=1", "a.x=1", ""},
		{"a.x=1", "a.x=2", "b.x=1", "a.x=2 b.x=1", "a.x"},
		{"a.x=1", "a.y=1", "a.x=2", "a.y=1", "a.x"},
	} {
		base, a, b := layersOf(c.base, c.a, c.b)
		what := c.a + " and " + c.b + " of " + c.base
		m, ok := impl.Merge3(base, a, b)
		checkLayer(t, "Merge3 of "+what, m, ok, layers(c.want)[0].Entries, true)
		checkRefs(t, "ConflictsOf "+what, impl.ConflictsOf(base, a, b), places(c.conflicts))
	}
}

func TestMerge3InOrder(t *testing.T) {
	for _, c := range []struct{ base, a, b, want, conflicts string }{
		{"x=1 y=1 z=1", "z=1 y=1 x=1", "y=1 z=1 x=1", "x=1 y=1 z=1", ""},
		{"y=1", "a.x=1 y=1", "a.y=2 y=1", "y=1 a.x=1 a.y=2", ""},
		{"", "b.x=1 a.x=1", "a.x=1 c.x=1 b.x=1", "b.x=1 a.x=1 c.x=1", ""},
		{"y=1 x=1", "x=2 q=3 y=1", "w=4 x=1 y=5", "y=5 x=2 q=3 w=4", ""},
		{"x=1 y=1 z=1", "y=2 x=2", "z=3 y=3 x=3", "x=2 y=2", "x y z"},
		{"z=1 x=1", "q=2 x=2 b.x=1", "b.x=2 q=3 x=3 z=1", "x=2 q=2 b.x=1", "x q b.x"},
		{"x=1 y=1 z=1 w=1 v=1", "x=2 z=1 w=3 v=1", "x=2 z=4 w=1", "x=2 z=4 w=3", ""},
		{"base=a a.base=b", "base=a,b a.base=b", "base=a a.base=b,c", "base=a,b a.base=b,c", ""},
	} {
		base, a, b := layersOf(c.base, c.a, c.b)
		m, ok := impl.Merge3(base, a, b)
		checkLayer(t, "Merge3 of "+c.a+" and "+c.b, m, ok, layers(c.want)[0].Entries, true)
		checkRefs(t, "ConflictsOf "+c.a+" and "+c.b, impl.ConflictsOf(base, a, b), places(c.conflicts))
	}
}

func TestMerge3UpToTheLimit(t *testing.T) {
	twenty, ten := manyKeys("a", 0, 20), manyKeys("a", 0, 10)
	for _, c := range []struct {
		base, a, b impl.Layer
		want       []impl.Entry
		ok         bool
	}{
		{twenty, twenty, twenty, twenty.Entries, true},
		{impl.Layer{}, ten, manyKeys("a", 10, 10), twenty.Entries, true},
		{impl.Layer{}, ten, manyKeys("a", 10, 11), nil, false},
		{impl.Layer{}, manyKeys("a", 0, 11), manyKeys("b", 0, 10), nil, false},
		{impl.Layer{}, twenty, lay("x=1"), nil, false},
		{impl.Layer{}, impl.Layer{}, twenty, twenty.Entries, true},
		// Places that both dropped, and those that one dropped, are more than a layer has entries.
		{twenty, impl.Layer{}, manyKeys("b", 0, 20), manyKeys("b", 0, 20).Entries, true},
		{twenty, manyKeys("b", 0, 10), manyKeys("c", 0, 10), both(manyKeys("b", 0, 10), manyKeys("c", 0, 10)).Entries, true},
		{twenty, manyKeys("b", 0, 10), manyKeys("c", 0, 11), nil, false},
		{twenty, both(manyKeys("a", 0, 19), lay("b.x=1")), both(twenty), both(manyKeys("a", 0, 19), lay("b.x=1")).Entries, true},
		{ten, both(ten, manyKeys("b", 0, 6)), both(ten, manyKeys("c", 0, 4)), both(ten, manyKeys("b", 0, 6), manyKeys("c", 0, 4)).Entries, true},
		{ten, both(ten, manyKeys("b", 0, 6)), both(ten, manyKeys("c", 0, 5)), nil, false},
	} {
		m, ok := impl.Merge3(c.base, c.a, c.b)
		checkLayer(t, "Merge3", m, ok, c.want, c.ok)
		checkRefs(t, "ConflictsOf", impl.ConflictsOf(c.base, c.a, c.b), nil)
	}
	// There are conflicts also where there is no layer, and more than it could have.
	b, c := manyKeys("b", 0, 20), manyKeys("c", 0, 20)
	for i := range 20 {
		b.Entries[i].Value, c.Entries[i].Value = "2", "3"
	}
	m, ok := impl.Merge3(both(manyKeys("b", 0, 10), manyKeys("c", 0, 10)), b, c)
	checkLayer(t, "Merge3", m, ok, nil, false)
	conflicts := impl.ConflictsOf(both(manyKeys("b", 0, 10), manyKeys("c", 0, 10)), b, c)
	if len(conflicts) != 20 || conflicts[0] != (impl.Ref{Section: "b", Key: "ka"}) || conflicts[19] != (impl.Ref{Section: "c", Key: "kj"}) {
		t.Errorf("ConflictsOf = %+v", conflicts)
	}
}

func TestCountChangesOfKeys(t *testing.T) {
	for _, c := range []struct {
		a, b string
		want [3]int
	}{
		{"", "", [3]int{}},
		{"x=1", "x=1", [3]int{}},
		{"x=1", "", [3]int{0, 1, 0}},
		{"", "x=1", [3]int{1, 0, 0}},
		{"x=1", "x=2", [3]int{0, 0, 1}},
		{"x=", "x=1", [3]int{0, 0, 1}},
		{"x=", "", [3]int{0, 1, 0}},
		{"", "x= a.x=", [3]int{2, 0, 0}},
		{"x=1", "a.x=1", [3]int{1, 1, 0}},
		{"x=1 y=1 z=1", "z=1 y=1 x=1", [3]int{}},
		{"x=1 y=2 a.x=3", "b.x=1 y=3 b.y=2 b.z=3 x=1", [3]int{3, 1, 1}},
	} {
		a, b := layers(c.a)[0], layers(c.b)[0]
		more, less, turned := impl.CountChanges(a, b)
		if [3]int{more, less, turned} != c.want {
			t.Errorf("CountChanges of %s and %s = %d, %d, %d; want %v", c.a, c.b, more, less, turned, c.want)
		}
	}
	if more, less, turned := impl.CountChanges(manyKeys("a", 0, 20), manyKeys("a", 5, 20)); more != 5 || less != 5 || turned != 0 {
		t.Errorf("CountChanges = %d, %d, %d", more, less, turned)
	}
	if more, less, turned := impl.CountChanges(manyKeys("a", 0, 20), manyKeys("b", 0, 20)); more != 20 || less != 20 || turned != 0 {
		t.Errorf("CountChanges = %d, %d, %d", more, less, turned)
	}
}

func TestMergeAllThrees(t *testing.T) {
	long, conflicts := 0, 0
	eachThree(t, func(t *testing.T, base, a, b impl.Layer) {
		want, refs := wantThree(base, a, b)
		m, ok := impl.Merge3(base, a, b)
		checkLayer(t, "Merge3", m, ok, want, len(want) <= 20)
		checkRefs(t, "ConflictsOf", impl.ConflictsOf(base, a, b), refs)
		more, less, turned := impl.CountChanges(a, b)
		if want := wantCounts(a, b); [3]int{more, less, turned} != want {
			t.Errorf("CountChanges = %d, %d, %d; want %v", more, less, turned, want)
		}
		if conflicts += len(refs); !ok {
			long++
		}
	})
	enough(t, "conflicts", conflicts, 5000)
	enough(t, "threes have too many entries", long, 20)
}

// checkOtherThree checks that each function of flat layers has its fixed result if one of them is not flat.
func checkOtherThree(t *testing.T, base, a, b impl.Layer) {
	t.Helper()
	m, ok := impl.Merge3(base, a, b)
	checkLayer(t, "Merge3", m, ok, nil, false)
	checkRefs(t, "ConflictsOf", impl.ConflictsOf(base, a, b), nil)
	if t.Failed() {
		t.Fatalf("with the layers %+v and %+v made of %+v", a, b, base)
	}
}

func TestMergesOfOtherLayers(t *testing.T) {
	others := append(notFlat(), lay("x+1"), lay("x-"), lay("x=1", "a.x-"), lay("x=1", "a.x+2"))
	for _, other := range others {
		for _, good := range []impl.Layer{{}, lay("x=1"), lay("x=1", "a.x=2", "abc.other="), manyKeys("b", 0, 20)} {
			checkOtherThree(t, other, good, good)
			checkOtherThree(t, good, other, good)
			checkOtherThree(t, good, good, other)
			checkOtherThree(t, good, other, other)
			checkOtherThree(t, good, other, lay("x=9"))
			checkOtherThree(t, good, lay("x=9"), other)
			for _, two := range [][2]impl.Layer{{other, good}, {good, other}, {other, other}} {
				if more, less, turned := impl.CountChanges(two[0], two[1]); more != -1 || less != -1 || turned != -1 {
					t.Errorf("CountChanges(%+v, %+v) = %d, %d, %d", two[0], two[1], more, less, turned)
				}
			}
		}
		checkOtherThree(t, other, other, other)
	}
	v40 := strings.Repeat("v", 40)
	m, ok := impl.Merge3(impl.Layer{}, lay("abcdefgh.abcdefgh="+v40), lay("x="+v40))
	checkLayer(t, "Merge3 of long values", m, ok, lay("abcdefgh.abcdefgh="+v40, "x="+v40).Entries, true)
}

func TestMergesShareNoMemory(t *testing.T) {
	wholes := [3][]impl.Entry{}
	before := [3][]impl.Entry{}
	three := [3]impl.Layer{}
	for i, l := range layers("x=1 y=1 z=1", "x=2 y=1 z=2", "x=1 y=1 z=3") {
		wholes[i] = append(l.Entries, make([]impl.Entry, 8)...)
		before[i] = slices.Clone(wholes[i])
		three[i].Entries = wholes[i][:3]
	}
	for range 2 {
		for _, c := range [][3]impl.Layer{three, {three[0], three[0], three[0]}, {three[0], three[1], three[0]}, {three[0], three[0], three[1]}, {{}, three[1], {}}, {{}, {}, three[1]}} {
			m, ok := impl.Merge3(c[0], c[1], c[2])
			want, _ := wantThree(c[0], c[1], c[2])
			checkLayer(t, "Merge3", m, ok, want, true)
			for j := range m.Entries[:cap(m.Entries)] {
				m.Entries[:cap(m.Entries)][j].Value = "changed"
			}
			for i := range wholes {
				if !slices.Equal(wholes[i], before[i]) {
					t.Fatalf("the layer %d is %+v", i, wholes[i])
				}
			}
		}
		refs := impl.ConflictsOf(three[0], three[1], three[2])
		checkRefs(t, "ConflictsOf", refs, places("z"))
		refs[0].Key = "changed"
	}
}
