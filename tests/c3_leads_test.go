package tests

import (
	"slices"
	"strings"
	"testing"

	"loop.example/settinglayers/impl"
)

func TestMissingRefsInOrder(t *testing.T) {
	for s, want := range map[string]string{
		"": "", "x=1": "", "x=$$": "", "x=${x}": "", "x=${y} y=": "", "x=$": "", "x=${no}$": "", "x=${no": "",
		"x=${no}": "no", "a.x=${no}": "a.no", "a.x=${x}${:x}": "x", "x=${a:x}": "a.x", "x=${no}${no} y=${:no}": "no",
		"c.x=${z}${y} b.x=${c:y}${:c}${x} a.x=${b:z}${c:z}": "c.z c.y c b.z", "x=${b:q}${a:q}${y} y=${q}${a:q}": "b.q a.q q",
		"x=$${no} y=${X} z=${abcdefgh:abcdefgh}": "abcdefgh.abcdefgh",
	} {
		checkRefs(t, "MissingRefs of "+s, impl.MissingRefs(layers(s)[0]), places(want))
	}
}

func TestDependsOnInOrder(t *testing.T) {
	for _, c := range [][3]string{
		{"", "x", ""}, {"x=1", "x", ""}, {"x=1", "y", ""}, {"a.x=${y}", "x", ""}, {"x=$", "x", ""}, {"x=${y}$ y=", "x", ""}, {"x=$${y} y=", "x", ""},
		{"x=${y}", "x", "y"}, {"x=${y} y=", "x", "y"}, {"x=${y}${y} y=1", "x", "y"}, {"x=${a:y}${:y}", "x", "a.y y"}, {"a.x=${y}${:y}", "a.x", "a.y y"},
		{"x=${y}${z} y=${w} w=1", "x", "y w z"}, {"x=${z}${y} y=${w}${z} z=${w}", "x", "z w y"}, {"x=${y}${w} y=${z} z=${w} w=${v}", "x", "y z w v"},
		{"x=${y} y=$${z}$ z=1", "x", "y"}, {"x=${no}${y} y=${a:no}", "x", "no y a.no"},
		// The key itself is not there at first.
		{"x=${x}", "x", "x"}, {"x=${x}${y} y=1", "x", "x y"}, {"x=${y} y=${x}", "x", "y x"}, {"x=${y}${z} y=${x}${w} w=1", "x", "y x z w"}, {"x=${y} y=${y}", "x", "y"}, {"x=${y} y=${z} z=${y}", "x", "y z"},
		{"a.x=${b:y} b.y=${z} b.z=${a:x}${:k} k=${a:x}", "a.x", "b.y b.z a.x k"},
	} {
		r := places(c[1] + " x")[0]
		checkRefs(t, "DependsOn "+c[1]+" in "+c[0], impl.DependsOn(layers(c[0])[0], r.Section, r.Key), places(c[2]))
	}
}

func TestCyclicKeysInOrder(t *testing.T) {
	for s, want := range map[string]string{
		"": "", "x=1": "", "x=${y}": "", "x=${y} y=1": "", "x=$${x}": "", "x=${x}$": "", "x=${a:x} a.x=1": "", "x=${y} y=${x}$": "",
		"x=${x}": "x", "x=${:x}": "x", "a.x=${x}": "a.x", "a.x=${:x} x=1": "", "x=${y} y=${x}": "x y", "y=${x} x=${y}": "y x",
		// Keys that just lead to a cycle are none.
		"z=${x} x=${y} y=${x}": "x y", "z=${z}${x} y=${z} x=1": "z", "a.x=${b:x} b.x=${:x} x=${a:x} y=${x}": "a.x b.x x", "a=${b} b=${a}${c} c=${d} d=${c} e=${d}": "a b c d",
	} {
		checkRefs(t, "CyclicKeys of "+s, impl.CyclicKeys(layers(s)[0]), places(want))
	}
}

func TestUsersOfInOrder(t *testing.T) {
	for _, c := range [][3]string{
		{"", "x", ""}, {"x=1", "x", ""}, {"x=${x}", "x", "x"}, {"x=1 y=${x}", "x", "y"}, {"x=1 y=${x}", "y", ""}, {"y=${x}", "x", "y"}, {"y=${x}${x}", "x", "y"}, {"y=${x}$", "x", ""}, {"y=$${x}", "x", ""},
		{"x=1 y=${x} z=${y}", "x", "y"}, {"a.x=1 a.y=${x} b.y=${x} c.y=${a:x} y=${:x}", "a.x", "a.y c.y"}, {"a.x=1 a.y=${x} b.y=${x} c.y=${:x} y=${x}", "x", "c.y y"},
		{"z=${x} x=1 y=${x}${z} a.x=${:x}${x}", "x", "z y a.x"}, {"abcdefgh=${abcdefgh:abcdefgh}", "abcdefgh.abcdefgh", "abcdefgh"},
	} {
		r := places(c[1])[0]
		checkRefs(t, "UsersOf "+c[1]+" in "+c[0], impl.UsersOf(layers(c[0])[0], r.Section, r.Key), places(c[2]))
	}
}

func TestOrderOfEntries(t *testing.T) {
	for s, want := range map[string][]int{
		"": {}, "x=1": {0}, "x=${y}": {0}, "x=$": {0}, "x=${x}$": {0}, "x=1 y=2 z=3": {0, 1, 2}, "x=${y} y=1": {1, 0}, "y=1 x=${y}": {0, 1}, "x=${y} y=$${x}": {1, 0}, "x=${y}$ y=${x}": {0, 1},
		"x=${y} y=${z} z=1": {2, 1, 0}, "x=${z} y=${z} z=1": {2, 0, 1}, "x=${z} y=1 z=${y}": {1, 2, 0}, "x=${w} y=1 z=${y} w=2": {1, 2, 3, 0}, "x=${y}${z} y=1 w=3 z=2": {1, 2, 3, 0},
		// Each time the first one is taken: x comes ahead of w, but not of y.
		"x=${y} y=1 w=1": {1, 0, 2}, "x=${z}${y} a.x=${:x} z=${no} b.x=1 y=${b:x}": {2, 3, 4, 0, 1},
	} {
		got, ok := impl.OrderOf(layers(s)[0])
		if !ok || !slices.Equal(got, want) {
			t.Errorf("OrderOf(%q) = %v, %v", s, got, ok)
		}
	}
	for _, s := range []string{"x=${x}", "x=1 y=${y}", "x=${y} y=${x}", "x=${y} y=${z} z=${y}", "a.x=${b:x} b.x=${:x} x=${a:x}", "w=1 x=${w} y=${x}${y}"} {
		if got, ok := impl.OrderOf(layers(s)[0]); ok || len(got) != 0 {
			t.Errorf("OrderOf(%q) = %v, %v", s, got, ok)
		}
	}
	got, ok := impl.OrderOf(chain(20, "${#}", "1"))
	slices.Reverse(got)
	if want := []int{0, 1, 2, 3, 4, 5, 6, 7, 8, 9, 10, 11, 12, 13, 14, 15, 16, 17, 18, 19}; !ok || !slices.Equal(got, want) {
		t.Errorf("OrderOf a chain = %v, %v", got, ok)
	}
}

func TestMoveKeyInOrder(t *testing.T) {
	for _, c := range [][4]string{
		{"x=1", "x", "y", "y=1"}, {"x=1", "x", "a.x", "a.x=1"}, {"a.x=1", "a.x", "x", "x=1"}, {"x=1 y=2 z=3", "y", "w", "x=1 w=2 z=3"}, {"x=", "x", "abcdefgh.abcdefgh", "abcdefgh.abcdefgh="},
		{"x=1 y=${x}", "x", "z", "z=1 y=${z}"}, {"x=1 a.y=${:x}", "x", "a.z", "a.z=1 a.y=${z}"}, {"a.x=1 a.y=${x} b.y=${a:x}", "a.x", "b.x", "b.x=1 a.y=${b:x} b.y=${x}"},
		{"a.x=${y}${:y}${b:y}", "a.x", "b.x", "b.x=${a:y}${:y}${y}"}, {"a.x=${y}${:y}${b:y}", "a.x", "x", "x=${a:y}${y}${b:y}"}, {"a.x=${y}", "a.x", "a.z", "a.z=${y}"},
		{"a.x=$$${y}$${y}-$$", "a.x", "b.x", "b.x=$$${a:y}$${y}-$$"}, {"x=1 y=$$${x}$${x}-$$", "x", "z", "z=1 y=$$${z}$${x}-$$"},
		// References to itself, on both sides.
		{"x=${x}", "x", "y", "y=${y}"}, {"x=${:x}-${x}", "x", "a.y", "a.y=${y}-${y}"}, {"a.x=${a:x}", "a.x", "b.x", "b.x=${x}"}, {"a.x=${x}${b:x}", "a.x", "b.x", "b.x=${x}${x}"}, {"x=${y} y=${x}", "x", "a.x", "a.x=${:y} y=${a:x}"},
		// Values that are written anew are as short as can be, and all others stay.
		{"a.x=${a:y}", "a.x", "a.z", "a.z=${y}"}, {"a.x=1 a.y=${a:x}${a:z}", "a.x", "a.w", "a.w=1 a.y=${w}${z}"}, {"a.x=1 a.y=${a:z} a.z=${a:y}", "a.x", "b.x", "b.x=1 a.y=${a:z} a.z=${a:y}"}, {"a.x=1 a.y=${b:x}${:x}${a:z}", "a.x", "a.w", "a.w=1 a.y=${b:x}${:x}${a:z}"},
		{"x=1 y=$${x} z=${x}$ w=$", "x", "v", "v=1 y=$${x} z=${x}$ w=$"}, {"a.x=${a:y}$ a.y=${a:x}", "a.x", "b.x", "b.x=${a:y}$ a.y=${b:x}"},
		// References that had no entry may have one then.
		{"x=1 y=${z}${x}", "x", "z", "z=1 y=${z}${z}"}, {"x=${z}", "x", "z", "z=${z}"},
	} {
		l := layers(c[0], c[3])
		got, ok := impl.MoveKey(l[0], places(c[1])[0], places(c[2])[0])
		checkLayer(t, "MoveKey "+c[1]+" to "+c[2]+" in "+c[0], got, ok, l[1].Entries, true)
	}
}

func TestMoveKeyOfOtherPlaces(t *testing.T) {
	l := lay("x=1", "a.x=${:x}", "a.y=$", "x.a=${x}")
	for _, c := range [][2]impl.Ref{
		{{Key: "x"}, {Key: "x"}}, {{Key: "x"}, {Section: "a", Key: "x"}}, {{Section: "a", Key: "x"}, {Key: "x"}}, {{Section: "a", Key: "y"}, {Section: "a", Key: "x"}}, {{Section: "a", Key: "y"}, {Section: "a", Key: "y"}},
		{{Key: "y"}, {Key: "z"}}, {{Section: "b", Key: "x"}, {Key: "z"}}, {{}, {Key: "z"}}, {{Section: "a"}, {Key: "z"}}, {{Section: "A", Key: "x"}, {Key: "z"}}, {{Section: "x", Key: "x"}, {Key: "z"}}, {{Key: "a.x"}, {Key: "z"}},
	} {
		got, ok := impl.MoveKey(l, c[0], c[1])
		checkLayer(t, "MoveKey", got, ok, nil, false)
	}
	for _, s := range otherSections() {
		for _, to := range []impl.Ref{{Section: s, Key: "z"}, {Section: "a", Key: s}, {Key: s}, {Section: s}, {}, {Section: "a"}} {
			for _, e := range l.Entries {
				got, ok := impl.MoveKey(l, entryRef(e), to)
				checkLayer(t, "MoveKey to no place", got, ok, nil, false)
				got, ok = impl.MoveKey(l, to, impl.Ref{Key: "z"})
				checkLayer(t, "MoveKey of no place", got, ok, nil, false)
			}
		}
	}
}

func TestMoveKeyUpToTheLimit(t *testing.T) {
	v, ten := strings.Repeat("v", 40), strings.Repeat("${x}", 10)
	for _, c := range []struct {
		l        impl.Layer
		from, to string
		want     []impl.Entry
		ok       bool
	}{
		{lay("x="+v, "y="+ten), "x", "z", lay("z="+v, "y="+strings.Repeat("${z}", 10)).Entries, true},
		{lay("x="+v, "y="+ten), "x", "zz", nil, false},
		{lay("a.x="+v, "a.y="+ten), "a.x", "x", nil, false},
		{lay("x=1", "y="+v[:36]+"${x}"), "x", "z", lay("z=1", "y="+v[:36]+"${z}").Entries, true},
		{lay("x=1", "y="+v[:35]+"${x}"), "x", "zz", lay("zz=1", "y="+v[:35]+"${zz}").Entries, true},
		{lay("x=1", "y="+v[:36]+"${x}"), "x", "zz", nil, false},
		{lay("x=" + v[:34] + "${y}"), "x", "a.x", lay("a.x=" + v[:34] + "${:y}").Entries, true},
		{lay("x=" + v[:36] + "${y}"), "x", "a.x", nil, false},
		{lay("x=" + v[:36] + "${y}"), "x", "z", lay("z=" + v[:36] + "${y}").Entries, true},
		{lay("x=" + strings.Repeat("$$", 20)), "x", "a.z", lay("a.z=" + strings.Repeat("$$", 20)).Entries, true},
		{lay("x=" + v[:39] + "$"), "x", "a.z", lay("a.z=" + v[:39] + "$").Entries, true},
		{manyKeys("a", 0, 20), "a.ka", "a.ku", both(lay("a.ku=1"), manyKeys("a", 1, 19)).Entries, true},
		{manyKeys("a", 0, 21), "a.ka", "b.ka", nil, false},
	} {
		got, ok := impl.MoveKey(c.l, places(c.from)[0], places(c.to)[0])
		checkLayer(t, "MoveKey", got, ok, c.want, c.ok)
	}
}

func TestLeadsInAllLayers(t *testing.T) {
	cycles, orders := 0, 0
	eachLayer(t, refLayers(), func(t *testing.T, l impl.Layer) {
		checkRefs(t, "MissingRefs", impl.MissingRefs(l), wantMissing(l))
		checkRefs(t, "CyclicKeys", impl.CyclicKeys(l), wantCyclic(l))
		some := someRefs()
		for _, e := range l.Entries {
			some = append(some, entryRef(e))
		}
		for _, r := range some {
			checkRefs(t, "DependsOn", impl.DependsOn(l, r.Section, r.Key), wantDepends(l, r))
			checkRefs(t, "UsersOf", impl.UsersOf(l, r.Section, r.Key), wantUsers(l, r))
		}
		got, ok := impl.OrderOf(l)
		if want, wantOK := wantOrder(l); ok != wantOK || !slices.Equal(got, want) {
			t.Errorf("OrderOf = %v, %v; want %v, %v", got, ok, want, wantOK)
		}
		if ok {
			orders++
		}
		cycles += len(impl.CyclicKeys(l))
	})
	if cycles < 500 || orders < 500 {
		t.Errorf("just %d cyclic keys, and %d orders", cycles, orders)
	}
}

func TestMoveKeyInAllLayers(t *testing.T) {
	good, bad := 0, 0
	eachLayer(t, someRefLayers(), func(t *testing.T, l impl.Layer) {
		some := someRefs()
		for _, e := range l.Entries {
			for _, to := range append(some, impl.Ref{Section: "b", Key: "new"}, entryRef(l.Entries[0])) {
				want, wantOK := wantMoved(l, entryRef(e), to)
				got, ok := impl.MoveKey(l, entryRef(e), to)
				if checkLayer(t, "MoveKey", got, ok, want, wantOK); ok {
					good++
				} else if isPlace(to) {
					bad++
				}
			}
		}
		for _, from := range some {
			want, wantOK := wantMoved(l, from, impl.Ref{Section: "b", Key: "new"})
			got, ok := impl.MoveKey(l, from, impl.Ref{Section: "b", Key: "new"})
			checkLayer(t, "MoveKey", got, ok, want, wantOK)
		}
	})
	if good < 1000 || bad < 1000 {
		t.Errorf("just %d keys move, and %d do not", good, bad)
	}
}

func TestLeadsInOtherLayers(t *testing.T) {
	self := impl.Layer{Entries: []impl.Entry{{Key: "x", Op: impl.OpAdd, Value: "${x}${no}"}, {Section: "a", Key: "x", Value: "${:x}"}}}
	more := chain(21, "${#}${ka}${no}", "1")
	for _, other := range append(badLayers(), lay("x+1"), lay("x-"), lay("x=${x}${no}", "y+${x}"), lay("y-", "x=${x}${no}"), self, more) {
		checkRefs(t, "MissingRefs", impl.MissingRefs(other), nil)
		checkRefs(t, "CyclicKeys", impl.CyclicKeys(other), nil)
		if got, ok := impl.OrderOf(other); ok || len(got) != 0 {
			t.Errorf("OrderOf(%+v) = %v, %v", other, got, ok)
		}
		for _, r := range append(someRefs(), impl.Ref{Key: "no"}, impl.Ref{Section: "a", Key: "ka"}, impl.Ref{Section: "abc", Key: "other"}) {
			checkRefs(t, "DependsOn", impl.DependsOn(other, r.Section, r.Key), nil)
			checkRefs(t, "UsersOf", impl.UsersOf(other, r.Section, r.Key), nil)
			for _, to := range []impl.Ref{{Key: "new"}, {Section: "a", Key: "z"}, {}, r} {
				got, ok := impl.MoveKey(other, r, to)
				checkLayer(t, "MoveKey", got, ok, nil, false)
			}
		}
	}
}

func TestLeadsEndInTime(t *testing.T) {
	for _, last := range []string{"", "${ka}", "$"} {
		many := chain(20, strings.Repeat("${#}", 8), last)
		soon(t, "DependsOn", func() {
			checkRefs(t, "DependsOn", impl.DependsOn(many, "a", "ka"), wantDepends(many, impl.Ref{Section: "a", Key: "ka"}))
		})
		soon(t, "CyclicKeys", func() {
			checkRefs(t, "CyclicKeys", impl.CyclicKeys(many), wantCyclic(many))
		})
	}
}

func TestLeadsShareNoMemory(t *testing.T) {
	whole := append(lay("x=${y}${no}", "y=${z}", "z=1", "a.p=${q}", "a.q=${p}").Entries, make([]impl.Entry, 8)...)
	before := slices.Clone(whole)
	l := impl.Layer{Entries: whole[:5]}
	for range 2 {
		missing, needs, cyclic, users := impl.MissingRefs(l), impl.DependsOn(l, "", "x"), impl.CyclicKeys(l), impl.UsersOf(l, "", "y")
		checkRefs(t, "MissingRefs", missing, places("no"))
		checkRefs(t, "DependsOn", needs, places("y z no"))
		checkRefs(t, "CyclicKeys", cyclic, places("a.p a.q"))
		checkRefs(t, "UsersOf", users, places("x"))
		order, ok := impl.OrderOf(impl.Layer{Entries: whole[:3]})
		if !ok || !slices.Equal(order, []int{2, 1, 0}) {
			t.Errorf("OrderOf = %v, %v", order, ok)
		}
		moved, ok := impl.MoveKey(l, impl.Ref{Key: "y"}, impl.Ref{Section: "b", Key: "y"})
		checkLayer(t, "MoveKey", moved, ok, lay("x=${b:y}${no}", "b.y=${:z}", "z=1", "a.p=${q}", "a.q=${p}").Entries, true)
		missing[0].Key, needs[0].Key, cyclic[0].Key, users[0].Key, order[0] = "changed", "changed", "changed", "changed", 7
		for i := range moved.Entries[:cap(moved.Entries)] {
			moved.Entries[:cap(moved.Entries)][i].Value = "changed"
		}
		if !slices.Equal(whole, before) {
			t.Fatalf("the layer is %+v", whole)
		}
	}
}
