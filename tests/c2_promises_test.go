package tests

import (
	"slices"
	"strings"
	"testing"

	"loop.example/settinglayers/impl"
)

// The tests of this file have the numbers of the document's promises. P9, P12 and P13 are with those of chapter 1.

// without returns a layer without the entry at an index.
func without(l impl.Layer, i int) impl.Layer {
	return impl.Layer{Entries: slices.Delete(slices.Clone(l.Entries), i, i+1)}
}

// flatOf returns the entries of Flatten of a stack that has one.
func flatOf(t *testing.T, stack ...impl.Layer) []impl.Entry {
	t.Helper()
	l, ok := impl.Flatten(stack)
	if !ok {
		t.Errorf("Flatten(%+v) fails", stack)
	}
	return l.Entries
}

func TestP21LayersCanBeCut(t *testing.T) {
	eachLayer(t, append(someLayers(), manyKeys("a", 0, 20)), func(t *testing.T, l impl.Layer) {
		if !impl.ValidLayer(l) {
			t.Error("it is not valid")
		}
		for i := range l.Entries {
			if !impl.ValidLayer(without(l, i)) {
				t.Errorf("without the entry %d it is not valid", i)
			}
		}
	})
}

func TestP22LayersOfFilesTellWhatTheyMean(t *testing.T) {
	eachFile(t, func(t *testing.T, f impl.File, rows []row) {
		stack := []impl.Layer{impl.LayerOf(f)}
		n := 0
		for _, s := range impl.SectionsOf(f) {
			for _, key := range impl.KeysOf(f, s) {
				want, _ := impl.GetValue(f, s, key)
				if value, ok := impl.Resolve(stack, s, key); !ok || value != want {
					t.Errorf("Resolve(%q, %q) = %q, %v; want %q", s, key, value, ok, want)
				}
				n++
			}
		}
		if !impl.IsFlat(stack[0]) || len(stack[0].Entries) != n {
			t.Errorf("LayerOf = %+v", stack[0])
		}
		eachPlace(func(s, key string) {
			want, has := impl.GetValue(f, s, key)
			if value, ok := impl.Resolve(stack, s, key); ok != has || value != want {
				t.Errorf("Resolve(%q, %q) = %q, %v; want %q, %v", s, key, value, ok, want, has)
			}
		})
	})
}

func TestP23FlatLayersAreTheirOwn(t *testing.T) {
	eachLayer(t, someLayers(), func(t *testing.T, l impl.Layer) {
		flat := impl.Layer{Entries: flatOf(t, l)}
		if !impl.IsFlat(flat) || !slices.Equal(flatOf(t, flat), flat.Entries) {
			t.Errorf("Flatten = %+v", flat)
		}
		if impl.IsFlat(l) != slices.Equal(flat.Entries, l.Entries) {
			t.Errorf("IsFlat = %v; Flatten = %+v", impl.IsFlat(l), flat)
		}
	})
}

func TestP24LayersComeBack(t *testing.T) {
	eachLayer(t, someLayers(), func(t *testing.T, l impl.Layer) {
		f, ok := impl.FileOf(l)
		lines := len(l.Entries) + len(impl.LayerSections(l))
		if slices.Contains(impl.LayerSections(l), "") {
			lines--
		}
		if ok != (impl.IsFlat(l) && lines <= 20) {
			t.Errorf("FileOf = %+v, %v", f, ok)
		}
		if ok && (!sameSet(impl.LayerOf(f).Entries, l.Entries) || !sameFile(impl.TidyFile(f), f) || len(f.Lines) != lines) {
			t.Errorf("FileOf = %q", impl.FileText(f))
		}
	})
}

func TestP25MergedLayersTellWhatBothTell(t *testing.T) {
	eachPair(t, someLayers(), someLayers(), func(t *testing.T, top, low impl.Layer) {
		m, ok := impl.MergeLayers(top, low)
		if !ok {
			return
		}
		for _, p := range append(spotsUp(top, low), someSpots...) {
			checkResolve(t, "MergeLayers", []impl.Layer{m}, []impl.Layer{top, low}, p)
		}
	})
}

// checkThree checks that three layers are merged in either order, as far as all is valid.
func checkThree(t *testing.T, a, b, c impl.Layer) bool {
	t.Helper()
	upper, ok1 := impl.MergeLayers(a, b)
	lower, ok2 := impl.MergeLayers(b, c)
	l, ok3 := impl.MergeLayers(upper, c)
	m, ok4 := impl.MergeLayers(a, lower)
	all := ok1 && ok2 && ok3 && ok4
	if all && !slices.Equal(l.Entries, m.Entries) {
		t.Errorf("MergeLayers of %+v, %+v, %+v = %+v or %+v", a, b, c, l, m)
	}
	return all
}

func TestP26MergingGoesInEitherOrder(t *testing.T) {
	eachPair(t, smallLayers(), smallLayers(), func(t *testing.T, a, b impl.Layer) {
		for _, c := range smallLayers() {
			if !checkThree(t, a, b, c) {
				t.Errorf("MergeLayers fails over %+v", c)
			}
		}
	})
	n := 0
	large := append(largeLayers(400), impl.Layer{})
	for i := range large {
		if checkThree(t, large[i], large[(i+1)%len(large)], large[(i+2)%len(large)]) {
			n++
		}
	}
	if n < 20 {
		t.Errorf("just %d of the large layers are merged", n)
	}
}

func TestP27ValuesComeFromAbove(t *testing.T) {
	eachStack(t, func(t *testing.T, stack []impl.Layer) {
		if len(stack) == 5 {
			stack = stack[:4]
		}
		under := append([]impl.Layer{{}}, stack...)
		for _, p := range someSpots[:6] {
			checkResolve(t, "a layer of nothing on top", under, stack, p)
			for _, value := range []string{"", "9", strings.Repeat("v", 40)} {
				set := impl.Layer{Entries: []impl.Entry{{Section: p.section, Key: p.key, Value: value}}}
				if got, ok := impl.Resolve(append([]impl.Layer{set}, stack...), p.section, p.key); !ok || got != value {
					t.Errorf("Resolve(%+v) with OpSet of %q on top = %q, %v", p, value, got, ok)
				}
			}
			drop := impl.Layer{Entries: []impl.Entry{{Section: p.section, Key: p.key, Op: impl.OpDrop}}}
			if got, ok := impl.Resolve(append([]impl.Layer{drop}, stack...), p.section, p.key); ok || got != "" {
				t.Errorf("Resolve(%+v) with OpDrop on top = %q, %v", p, got, ok)
			}
		}
	})
}

func TestP28LayersHaveAPartOrNone(t *testing.T) {
	eachStack(t, func(t *testing.T, stack []impl.Layer) {
		for _, p := range someSpots {
			why := impl.WhyValue(stack, p.section, p.key)
			var told []impl.Layer
			last := -1
			for _, i := range why {
				if i <= last || i >= len(stack) {
					t.Fatalf("WhyValue(%+v) = %v", p, why)
				}
				told, last = append(told, stack[i]), i
			}
			checkResolve(t, "those that WhyValue tells", told, stack, p)
			if _, ok := impl.Resolve(stack, p.section, p.key); ok && len(why) == 0 {
				t.Errorf("nobody tells %+v", p)
			}
		}
	})
}

func TestP29FlatLayersTellWhatStacksTell(t *testing.T) {
	eachStack(t, func(t *testing.T, stack []impl.Layer) {
		flat, ok := impl.Flatten(stack)
		if !ok {
			return
		}
		n := 0
		for _, p := range spotsUp(stack...) {
			checkResolve(t, "Flatten", []impl.Layer{flat}, stack, p)
			if _, has := impl.Resolve(stack, p.section, p.key); has {
				n++
			}
		}
		for _, p := range someSpots {
			checkResolve(t, "Flatten", []impl.Layer{flat}, stack, p)
		}
		if len(flat.Entries) != n {
			t.Errorf("Flatten = %+v; %d keys have values", flat, n)
		}
	})
}

func TestP30StacksAreMergedLayers(t *testing.T) {
	eachStack(t, func(t *testing.T, stack []impl.Layer) {
		if len(stack) < 2 {
			return
		}
		m, ok := impl.MergeLayers(stack[0], stack[1])
		if !ok {
			return
		}
		flat, ok := impl.Flatten(stack)
		got, gotOK := impl.Flatten(append([]impl.Layer{m}, stack[2:]...))
		checkLayer(t, "Flatten of merged layers", got, gotOK, flat.Entries, ok)
	})
}

func TestP31PatchesLeadThere(t *testing.T) {
	eachPair(t, flatLayers(), flatLayers(), func(t *testing.T, have, want impl.Layer) {
		p, ok := impl.PatchLayers(have, want)
		if !ok {
			return
		}
		if got := flatOf(t, p, have); !sameSet(got, want.Entries) {
			t.Errorf("Flatten of PatchLayers = %+v", got)
		}
		if (len(p.Entries) == 0) != impl.SameLayers(have, want) {
			t.Errorf("PatchLayers = %+v", p)
		}
	})
}

func TestP32NoEntryOfAPatchCanBeLeftOut(t *testing.T) {
	eachPair(t, flatLayers(), flatLayers(), func(t *testing.T, have, want impl.Layer) {
		p, _ := impl.PatchLayers(have, want)
		for i := range p.Entries {
			flat, ok := impl.Flatten([]impl.Layer{without(p, i), have})
			if ok && sameSet(flat.Entries, want.Entries) {
				t.Errorf("PatchLayers = %+v, also without the entry %d", p, i)
			}
		}
	})
}

func TestP33OrderMeansNothing(t *testing.T) {
	eachPair(t, someLayers(), someLayers(), func(t *testing.T, a, b impl.Layer) {
		common := impl.CommonLayer(a, b)
		if impl.SameLayers(a, b) != impl.SameLayers(b, a) || impl.SameLayers(common, a) != (len(common.Entries) == len(a.Entries)) {
			t.Errorf("SameLayers = %v, CommonLayer = %+v", impl.SameLayers(a, b), common)
		}
	})
	eachLayer(t, someLayers(), func(t *testing.T, l impl.Layer) {
		turned := impl.Layer{Entries: slices.Clone(l.Entries)}
		slices.Reverse(turned.Entries)
		if !impl.SameLayers(l, turned) || !impl.SameLayers(turned, l) || !impl.SameLayers(l, l) {
			t.Error("it is not the same in another order")
		}
		for i := range l.Entries {
			if impl.SameLayers(l, without(turned, i)) || impl.SameLayers(without(turned, i), l) {
				t.Errorf("it is the same without the entry %d", len(l.Entries)-1-i)
			}
		}
	})
}

func TestP34WhatIsPutIsThere(t *testing.T) {
	eachLayer(t, someLayers(), func(t *testing.T, l impl.Layer) {
		for _, p := range append(spotsUp(l), someSpots[:6]...) {
			for _, e := range []impl.Entry{{Op: impl.OpSet, Value: "9"}, {Op: impl.OpAdd, Value: ""}, {Op: impl.OpDrop}} {
				e.Section, e.Key = p.section, p.key
				was, had := wantEntry(l, p)
				once, ok := impl.PutEntry(l, e)
				if ok != (had || len(l.Entries) < 20) {
					t.Errorf("PutEntry(%+v) = %+v, %v", e, once, ok)
				}
				if !ok {
					continue
				}
				other := func(x impl.Entry) bool { return spotOf(x) == p }
				if !slices.Contains(once.Entries, e) || !slices.Equal(slices.DeleteFunc(slices.Clone(once.Entries), other), slices.DeleteFunc(slices.Clone(l.Entries), other)) {
					t.Errorf("PutEntry(%+v) = %+v", e, once)
				}
				if had && slices.Index(once.Entries, e) != slices.Index(l.Entries, was) {
					t.Errorf("PutEntry(%+v) = %+v: it is not in its place", e, once)
				}
				again, ok := impl.PutEntry(once, e)
				checkLayer(t, "PutEntry twice", again, ok, once.Entries, true)
			}
		}
	})
}

func TestP35WhatIsCutIsGone(t *testing.T) {
	eachLayer(t, someLayers(), func(t *testing.T, l impl.Layer) {
		for _, e := range l.Entries {
			cut, ok := impl.CutEntry(l, e.Section, e.Key)
			if value, has := impl.Resolve([]impl.Layer{cut}, e.Section, e.Key); !ok || has || value != "" {
				t.Errorf("Resolve after CutEntry(%+v) = %q, %v", e, value, has)
			}
			for _, p := range spotsUp(l) {
				if p != spotOf(e) {
					checkResolve(t, "CutEntry", []impl.Layer{cut}, []impl.Layer{l}, p)
				}
			}
			if back, ok := impl.PutEntry(cut, e); !ok || !sameSet(back.Entries, l.Entries) {
				t.Errorf("PutEntry after CutEntry(%+v) = %+v, %v", e, back, ok)
			}
		}
		for _, p := range someSpots {
			if _, has := wantEntry(l, p); !has {
				cut, ok := impl.CutEntry(l, p.section, p.key)
				checkLayer(t, "CutEntry of none", cut, ok, nil, false)
			}
		}
	})
}

func TestP36SectionsAreParts(t *testing.T) {
	eachLayer(t, someLayers(), func(t *testing.T, l impl.Layer) {
		var all []impl.Entry
		for _, s := range impl.LayerSections(l) {
			part := impl.SectionOf(l, s)
			for _, e := range part.Entries {
				if e.Section != s {
					t.Errorf("SectionOf(%q) = %+v", s, part)
				}
			}
			checkLayer(t, "SectionOf twice", impl.SectionOf(part, s), true, part.Entries, true)
			all = append(all, part.Entries...)
		}
		if !sameSet(all, l.Entries) {
			t.Errorf("all sections have %+v", all)
		}
	})
}

func TestP37SectionsOfLayersAreToldOnce(t *testing.T) {
	eachLayer(t, someLayers(), func(t *testing.T, l impl.Layer) {
		sections := impl.LayerSections(l)
		if len(onceEach(sections)) != len(sections) {
			t.Errorf("LayerSections = %q", sections)
		}
		for _, s := range []string{"", "a", "b", "abcdefgh", "c", "x"} {
			if slices.Contains(sections, s) != (len(impl.SectionOf(l, s).Entries) > 0) {
				t.Errorf("LayerSections = %q; SectionOf(%q) = %+v", sections, s, impl.SectionOf(l, s))
			}
		}
	})
}

func TestP38UndoneLayersAreAsBefore(t *testing.T) {
	eachPair(t, someLayers(), flatLayers(), func(t *testing.T, l, have impl.Layer) {
		flat, ok := impl.Flatten([]impl.Layer{l, have})
		u, undone := impl.UndoLayer(l, have)
		if ok != undone {
			t.Errorf("UndoLayer = %+v, %v", u, undone)
		}
		if !ok {
			return
		}
		if got := flatOf(t, u, flat); !sameSet(got, have.Entries) {
			t.Errorf("Flatten of UndoLayer = %+v", got)
		}
		if (len(u.Entries) == 0) != sameSet(flat.Entries, have.Entries) {
			t.Errorf("UndoLayer = %+v", u)
		}
	})
}

func TestP39WhatIsCommonIsInBoth(t *testing.T) {
	eachPair(t, someLayers(), someLayers(), func(t *testing.T, a, b impl.Layer) {
		common, other := impl.CommonLayer(a, b), impl.CommonLayer(b, a)
		for _, e := range common.Entries {
			if !slices.Contains(a.Entries, e) || !slices.Contains(b.Entries, e) {
				t.Errorf("CommonLayer has %+v", e)
			}
		}
		for _, e := range a.Entries {
			if slices.Contains(b.Entries, e) != slices.Contains(common.Entries, e) {
				t.Errorf("CommonLayer = %+v", common)
			}
		}
		if !sameSet(common.Entries, other.Entries) || !impl.SameLayers(common, other) {
			t.Errorf("CommonLayer = %+v, the other way round %+v", common, other)
		}
	})
}
