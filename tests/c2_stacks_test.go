package tests

import (
	"slices"
	"strings"
	"testing"

	"loop.example/settinglayers/impl"
)

// layers returns the layers that some texts tell, each with spaces between its entries.
func layers(told ...string) []impl.Layer {
	var list []impl.Layer
	for _, s := range told {
		list = append(list, lay(strings.Fields(s)...))
	}
	return list
}

func TestMergeLayersOfOneSpot(t *testing.T) {
	for _, c := range [][3]string{
		{"x=2", "x=1", "x=2"}, {"x=2", "x+1", "x=2"}, {"x=2", "x-", "x=2"}, {"x=2", "", "x=2"}, {"x=", "x=1", "x="},
		{"x-", "x=1", "x-"}, {"x-", "x+1", "x-"}, {"x-", "x-", "x-"}, {"x-", "", "x-"},
		{"x+2", "x=1", "x=1,2"}, {"x+2", "x+1", "x+1,2"}, {"x+2", "x-", "x=2"}, {"x+2", "", "x+2"},
		{"x+", "x=1", "x=1,"}, {"x+", "x=", "x=,"}, {"x+", "x+", "x+,"}, {"x+", "x-", "x="}, {"x+2", "x=", "x=,2"}, {"x+2,3", "x+0,1", "x+0,1,2,3"},
		{"", "x=1", "x=1"}, {"", "x+1", "x+1"}, {"", "x-", "x-"}, {"", "", ""},
		{"a.x+2", "x=1", "x=1 a.x+2"}, {"x-", "a.x=1", "a.x=1 x-"}, {"x=2", "y=1", "y=1 x=2"},
		{"z=9 y+8 x-", "x=1 y=2 w=3", "x- y=2,8 w=3 z=9"}, {"c=1 a=1 b=1", "b=2 d=2 a=2", "b=1 d=2 a=1 c=1"},
	} {
		pair := layers(c[0], c[1], c[2])
		l, ok := impl.MergeLayers(pair[0], pair[1])
		checkLayer(t, "MergeLayers of "+c[0]+" over "+c[1], l, ok, pair[2].Entries, true)
	}
}

func TestMergeLayersUpToTheLimits(t *testing.T) {
	v19, v20, v40 := strings.Repeat("v", 19), strings.Repeat("v", 20), strings.Repeat("v", 40)
	full := manyKeys("a", 0, 20)
	for _, c := range []struct {
		top, low impl.Layer
		want     []impl.Entry
		ok       bool
	}{
		{lay("x+" + v20), lay("x=" + v19), lay("x=" + v19 + "," + v20).Entries, true},
		{lay("x+" + v20), lay("x+" + v19), lay("x+" + v19 + "," + v20).Entries, true},
		{lay("x+" + v20), lay("x=" + v20), nil, false},
		{lay("x+" + v20), lay("x+" + v20), nil, false},
		{lay("x+" + v40), lay("x-"), lay("x=" + v40).Entries, true},
		{lay("x+"), lay("x=" + v40), nil, false},
		{lay("x=" + v40), lay("x=" + v40), lay("x=" + v40).Entries, true},
		{full, full, full.Entries, true},
		{full, impl.Layer{}, full.Entries, true},
		{impl.Layer{}, full, full.Entries, true},
		{manyKeys("a", 10, 10), manyKeys("a", 0, 10), full.Entries, true},
		{manyKeys("a", 9, 11), manyKeys("a", 0, 12), full.Entries, true},
		{manyKeys("a", 10, 11), manyKeys("a", 0, 10), nil, false},
		{lay("x-"), full, nil, false},
		{full, lay("x-"), nil, false},
	} {
		l, ok := impl.MergeLayers(c.top, c.low)
		checkLayer(t, "MergeLayers", l, ok, c.want, c.ok)
	}
}

func TestMergeLayersOfAllPairs(t *testing.T) {
	eachPair(t, someLayers(), someLayers(), func(t *testing.T, top, low impl.Layer) {
		want, wantOK := wantMerged(top, low)
		l, ok := impl.MergeLayers(top, low)
		checkLayer(t, "MergeLayers", l, ok, want, wantOK)
	})
}

func TestResolveFromTheLastLayerUp(t *testing.T) {
	for _, c := range []struct {
		stack []impl.Layer
		value string
		ok    bool
		why   []int
	}{
		{nil, "", false, nil},
		{layers(""), "", false, nil},
		{layers("", "", "", "", ""), "", false, nil},
		{layers("x=1"), "1", true, []int{0}},
		{layers("x="), "", true, []int{0}},
		{layers("x+1"), "1", true, []int{0}},
		{layers("x+"), "", true, []int{0}},
		{layers("x-"), "", false, []int{0}},
		{layers("a.x=1"), "", false, nil},
		{layers("", "x=1", ""), "1", true, []int{1}},
		{layers("y=2", "a.x=3", "x=1"), "1", true, []int{2}},
		{layers("x=2", "x=1"), "2", true, []int{0}},
		{layers("x-", "x=1"), "", false, []int{0}},
		{layers("x+2", "x=1"), "1,2", true, []int{0, 1}},
		{layers("x+2", "x+1"), "1,2", true, []int{0, 1}},
		{layers("x+2", "x=", "x=0"), ",2", true, []int{0, 1}},
		{layers("x+", "x=", "x+0"), ",", true, []int{0, 1}},
		{layers("x+3", "x-", "x=1"), "3", true, []int{0, 1}},
		{layers("x+", "x-", "x=1"), "", true, []int{0, 1}},
		{layers("x+4", "x+3", "x-", "x+2", "x=1"), "3,4", true, []int{0, 1, 2}},
		{layers("x+4", "", "x=3", "x-", "x=1"), "3,4", true, []int{0, 2}},
		{layers("x-", "x+3", "x+2"), "", false, []int{0}},
		{layers("x+5", "x+4", "x+3", "x+2", "x+1"), "1,2,3,4,5", true, []int{0, 1, 2, 3, 4}},
		{layers("y+5", "x+4", "y+3", "x+2", "y=1"), "2,4", true, []int{1, 3}},
	} {
		value, ok := impl.Resolve(c.stack, "", "x")
		if why := impl.WhyValue(c.stack, "", "x"); value != c.value || ok != c.ok || !slices.Equal(why, c.why) {
			t.Errorf("Resolve(%+v) = %q, %v; WhyValue = %v; want %q, %v, %v", c.stack, value, ok, why, c.value, c.ok, c.why)
		}
	}
}

func TestResolveOfAllStacks(t *testing.T) {
	eachStack(t, func(t *testing.T, stack []impl.Layer) {
		for _, p := range someSpots {
			want, wantOK := wantValue(stack, p)
			if value, ok := impl.Resolve(stack, p.section, p.key); value != want || ok != wantOK {
				t.Errorf("Resolve(%+v) = %q, %v; want %q, %v", p, value, ok, want, wantOK)
			}
			if why := impl.WhyValue(stack, p.section, p.key); !slices.Equal(why, wantWhy(stack, p)) {
				t.Errorf("WhyValue(%+v) = %v; want %v", p, why, wantWhy(stack, p))
			}
		}
	})
}

func TestFlattenInOrder(t *testing.T) {
	for _, c := range []struct {
		stack []impl.Layer
		want  string
	}{
		{nil, ""},
		{layers("", "", "", "", ""), ""},
		{layers("x-"), ""},
		{layers("x+1 a.y+ b.z-"), "x=1 a.y="},
		{layers("x=2", "y=1 x=1"), "y=1 x=2"},
		{layers("z=2 y+3", "x=1 y=1"), "x=1 y=1,3 z=2"},
		{layers("x- y-", "x=1 y=1 z=1"), "z=1"},
		// What was taken away comes back in the order in which it came first.
		{layers("x=3", "x-", "x=1 y=1"), "x=3 y=1"},
		{layers("x+3", "x-", "x=1 y=1"), "x=3 y=1"},
		{layers("y=2 x=2", "x-"), "x=2 y=2"},
		{layers("a.x+2", "x=1 a.x-"), "x=1 a.x=2"},
		{layers("c=1", "b=1", "a=1", "d=1", "e=1"), "e=1 d=1 a=1 b=1 c=1"},
	} {
		l, ok := impl.Flatten(c.stack)
		checkLayer(t, "Flatten", l, ok, layers(c.want)[0].Entries, true)
	}
}

func TestFlattenUpToTheLimits(t *testing.T) {
	v19, v20, v40 := strings.Repeat("v", 19), strings.Repeat("v", 20), strings.Repeat("v", 40)
	for _, c := range []struct {
		stack []impl.Layer
		want  []impl.Entry
		ok    bool
	}{
		{layers("x+"+v20, "x="+v19), lay("x=" + v19 + "," + v20).Entries, true},
		{layers("x+"+v20, "x="+v20), nil, false},
		{layers("x+1", "x="+v40, "y=1"), nil, false},
		// On the way values may be long, and entries many.
		{layers("x=1", "x+"+v40, "x="+v40), lay("x=1").Entries, true},
		{layers("x-", "x+"+v40, "x="+v40), nil, true},
		{[]impl.Layer{manyKeys("a", 10, 10), manyKeys("a", 0, 10)}, manyKeys("a", 0, 20).Entries, true},
		{[]impl.Layer{manyKeys("a", 10, 11), manyKeys("a", 0, 10)}, nil, false},
		{[]impl.Layer{lay("a.ka-"), manyKeys("b", 0, 1), manyKeys("a", 0, 20)}, both(manyKeys("a", 1, 19), manyKeys("b", 0, 1)).Entries, true},
		{[]impl.Layer{lay("a.ka+"), lay("a.ka-"), manyKeys("b", 0, 1), manyKeys("a", 0, 20)}, nil, false},
	} {
		l, ok := impl.Flatten(c.stack)
		checkLayer(t, "Flatten", l, ok, c.want, c.ok)
	}
	long := layers("x+"+v40, "x+"+v40, "x+"+v40, "x+"+v40, "x="+v40)
	if value, ok := impl.Resolve(long, "", "x"); !ok || value != v40+strings.Repeat(","+v40, 4) {
		t.Errorf("Resolve of a long value = %q, %v", value, ok)
	}
	if why := impl.WhyValue(long, "", "x"); len(why) != 5 {
		t.Errorf("WhyValue of a long value = %v", why)
	}
	l, ok := impl.Flatten(long)
	checkLayer(t, "Flatten of a long value", l, ok, nil, false)
}

func TestFlattenOfAllStacks(t *testing.T) {
	eachStack(t, func(t *testing.T, stack []impl.Layer) {
		want, wantOK := wantFlat(stack)
		l, ok := impl.Flatten(stack)
		checkLayer(t, "Flatten", l, ok, want, wantOK)
	})
}

func TestPatchLayersInOrder(t *testing.T) {
	for _, c := range [][3]string{
		{"", "", ""}, {"x=1", "x=1", ""}, {"x=1 y=2", "y=2 x=1", ""},
		{"x=1", "", "x-"}, {"", "x=1", "x=1"}, {"x=1", "x=2", "x=2"}, {"x=1", "x=", "x="}, {"x=", "x=1", "x=1"}, {"x=", "", "x-"}, {"", "x=", "x="},
		{"x=1", "a.x=1", "x- a.x=1"}, {"a.x=1", "b.x=1", "a.x- b.x=1"}, {"a.b=1", "b.a=1", "a.b- b.a=1"},
		{"z=1 y=1 x=1 w=1", "a.v=2 w=2 y=1 b.u=2", "z- x- a.v=2 w=2 b.u=2"},
	} {
		l := layers(c[0], c[1], c[2])
		p, ok := impl.PatchLayers(l[0], l[1])
		checkLayer(t, "PatchLayers of "+c[0]+" and "+c[1], p, ok, l[2].Entries, true)
	}
}

func TestPatchLayersUpToTheLimit(t *testing.T) {
	drops := func(l impl.Layer) impl.Layer {
		for i := range l.Entries {
			l.Entries[i] = impl.Entry{Section: l.Entries[i].Section, Key: l.Entries[i].Key, Op: impl.OpDrop}
		}
		return l
	}
	for _, c := range []struct {
		have, want impl.Layer
		patch      impl.Layer
		ok         bool
	}{
		{manyKeys("a", 0, 20), impl.Layer{}, drops(manyKeys("a", 0, 20)), true},
		{impl.Layer{}, manyKeys("a", 0, 20), manyKeys("a", 0, 20), true},
		{manyKeys("a", 0, 20), manyKeys("a", 0, 20), impl.Layer{}, true},
		{manyKeys("a", 0, 10), manyKeys("b", 0, 10), both(drops(manyKeys("a", 0, 10)), manyKeys("b", 0, 10)), true},
		{manyKeys("a", 0, 11), manyKeys("b", 0, 10), impl.Layer{}, false},
		{manyKeys("a", 0, 10), manyKeys("b", 0, 11), impl.Layer{}, false},
		{manyKeys("a", 0, 20), manyKeys("b", 0, 20), impl.Layer{}, false},
		{manyKeys("a", 0, 20), both(manyKeys("a", 10, 10), manyKeys("b", 0, 10)), both(drops(manyKeys("a", 0, 10)), manyKeys("b", 0, 10)), true},
	} {
		p, ok := impl.PatchLayers(c.have, c.want)
		checkLayer(t, "PatchLayers", p, ok, c.patch.Entries, c.ok)
	}
}

func TestPatchLayersOfAllPairs(t *testing.T) {
	eachPair(t, flatLayers(), flatLayers(), func(t *testing.T, have, want impl.Layer) {
		entries, wantOK := wantPatch(have.Entries, want.Entries)
		p, ok := impl.PatchLayers(have, want)
		checkLayer(t, "PatchLayers", p, ok, entries, wantOK)
	})
}

func TestUndoLayerInOrder(t *testing.T) {
	v40 := strings.Repeat("v", 40)
	for _, c := range []struct {
		l, have, want string
		ok            bool
	}{
		{"", "", "", true}, {"", "x=1", "", true}, {"x=1", "x=1", "", true}, {"x-", "y=1", "", true},
		{"x=2", "x=1", "x=1", true}, {"x-", "x=1", "x=1", true}, {"x+2", "x=1", "x=1", true}, {"x+", "x=", "x=", true},
		{"x=2", "", "x-", true}, {"x+2", "", "x-", true}, {"x-", "", "", true}, {"a.x-", "x=1", "", true},
		{"w=1 y- x+2 a.v+", "x=1 y=1 z=1", "w- a.v- x=1 y=1", true},
		{"x+" + v40, "y=1", "x-", true}, {"x+1", "x=" + v40, "", false},
	} {
		l := layers(c.l, c.have, c.want)
		u, ok := impl.UndoLayer(l[0], l[1])
		checkLayer(t, "UndoLayer of "+c.l+" over "+c.have, u, ok, l[2].Entries, c.ok)
	}
}

func TestUndoLayerUpToTheLimit(t *testing.T) {
	full := manyKeys("a", 0, 20)
	u, ok := impl.UndoLayer(lay("x=1"), full)
	checkLayer(t, "UndoLayer of one more", u, ok, nil, false)
	u, ok = impl.UndoLayer(full, lay("x=1"))
	checkLayer(t, "UndoLayer over one more", u, ok, nil, false)
	u, ok = impl.UndoLayer(lay("x-"), full)
	checkLayer(t, "UndoLayer of a key that is not there", u, ok, nil, true)
	swap := both(manyKeys("b", 0, 10), lay("a.ka-", "a.kb-", "a.kc-", "a.kd-", "a.ke-", "a.kf-", "a.kg-", "a.kh-", "a.ki-", "a.kj-"))
	u, ok = impl.UndoLayer(swap, full)
	want := both(lay("b.ka-", "b.kb-", "b.kc-", "b.kd-", "b.ke-", "b.kf-", "b.kg-", "b.kh-", "b.ki-", "b.kj-"), manyKeys("a", 0, 10))
	checkLayer(t, "UndoLayer of as many as can be", u, ok, want.Entries, true)
}

func TestUndoLayerOfAllPairs(t *testing.T) {
	eachPair(t, someLayers(), flatLayers(), func(t *testing.T, l, have impl.Layer) {
		flat, wantOK := wantFlat([]impl.Layer{l, have})
		entries, _ := wantPatch(flat, have.Entries)
		u, ok := impl.UndoLayer(l, have)
		checkLayer(t, "UndoLayer", u, ok, entries, wantOK)
	})
}
