package tests

import (
	"slices"
	"strings"
	"testing"

	"loop.example/settinglayers/impl"
)

// The tests of this file have the numbers of the document's promises.

// eachBaseSection calls check with each of askedSections in each of baseLayers, until one fails.
func eachBaseSection(t *testing.T, check func(t *testing.T, l impl.Layer, s string)) {
	t.Helper()
	eachLayer(t, baseLayers(), func(t *testing.T, l impl.Layer) {
		for _, s := range askedSections {
			if check(t, l, s); t.Failed() {
				t.Fatalf("in the section %q", s)
			}
		}
	})
}

// enough fails the test if a promise was tried less often than that.
func enough(t *testing.T, what string, n, least int) {
	t.Helper()
	if n < least {
		t.Errorf("just %d %s", n, what)
	}
}

// namesOnce reports whether a list has different names.
func namesOnce(list []string) bool {
	return len(onceEach(list)) == len(list) && !slices.ContainsFunc(list, func(s string) bool { return !nameForm.MatchString(s) })
}

func TestP57BasesAreNames(t *testing.T) {
	n := 0
	eachBaseSection(t, func(t *testing.T, l impl.Layer, s string) {
		bases := impl.BasesOf(l, s)
		if !namesOnce(bases) {
			t.Errorf("BasesOf = %q", bases)
		}
		for _, b := range []string{"a", "c", "q", s} {
			more, ok := impl.AddBase(l, s, b)
			if !ok {
				continue
			}
			n++
			checkTexts(t, "BasesOf after AddBase", impl.BasesOf(more, s), append(slices.Clone(bases), b))
			for _, other := range impl.LayerSections(l) {
				if b == "c" && other != s {
					checkTexts(t, "BasesOf another section", impl.BasesOf(more, other), impl.BasesOf(l, other))
				}
			}
		}
	})
	enough(t, "bases are added", n, 5000)
}

func TestP58OrdersBeginWithTheSection(t *testing.T) {
	n, alone := 0, 0
	eachBaseSection(t, func(t *testing.T, l impl.Layer, s string) {
		order := impl.InheritOrder(l, s)
		if len(order) == 0 || order[0] != s || !namesOnce(order[1:]) || slices.Contains(order[1:], s) {
			t.Errorf("InheritOrder = %q", order)
		}
		for _, from := range order {
			for _, b := range impl.BasesOf(l, from) {
				if n++; !slices.Contains(order, b) {
					t.Errorf("InheritOrder = %q, without %q", order, b)
				}
			}
		}
		if len(impl.BasesOf(l, s)) == 0 {
			alone++
			checkTexts(t, "InheritOrder without bases", order, []string{s})
		}
	})
	enough(t, "bases", n, 5000)
	enough(t, "sections without bases", alone, 5000)
}

func TestP59CirclesAreClosed(t *testing.T) {
	circles, lines := 0, 0
	eachBaseSection(t, func(t *testing.T, l impl.Layer, s string) {
		bases := impl.BasesOf(l, s)
		closed := slices.ContainsFunc(bases, func(b string) bool { return slices.Contains(impl.InheritOrder(l, b), s) })
		if impl.IsCircular(l, s) != closed {
			t.Errorf("IsCircular = %v; BasesOf = %q", !closed, bases)
		}
		if closed {
			circles++
		} else if len(bases) > 0 {
			lines++
		}
	})
	enough(t, "circles", circles, 2000)
	enough(t, "sections with bases without a circle", lines, 2000)
}

func TestP60SourcesHaveTheKey(t *testing.T) {
	n := 0
	eachBaseSection(t, func(t *testing.T, l impl.Layer, s string) {
		order := impl.InheritOrder(l, s)
		for _, key := range []string{"x", "y", "z", "no"} {
			from, ok := impl.SourceOf(l, s, key)
			first := slices.IndexFunc(order, func(s string) bool {
				_, has := wantEntry(l, spot{s, key})
				return has
			})
			switch {
			case ok != (first >= 0):
				t.Errorf("SourceOf %q = %q, %v in %q", key, from, ok, order)
			case ok && from != order[first]:
				t.Errorf("SourceOf %q = %q, not %q", key, from, order[first])
			case first > 1:
				n++
			}
		}
		_, has := wantEntry(l, spot{s, "base"})
		from, ok := impl.SourceOf(l, s, "base")
		if ok != has || ok && from != s || !ok && from != "" {
			t.Errorf("SourceOf base = %q, %v", from, ok)
		}
	})
	enough(t, "sources are far", n, 1000)
}

func TestP61WhatIsInheritedIsThatOfTheSource(t *testing.T) {
	own, far := 0, 0
	eachBaseSection(t, func(t *testing.T, l impl.Layer, s string) {
		for _, key := range []string{"x", "y", "z", "base", "no"} {
			value, ok := impl.LookInherited(l, s, key)
			from, has := impl.SourceOf(l, s, key)
			want, wantOK := "", false
			if has {
				want, wantOK = impl.Resolve([]impl.Layer{l}, from, key)
			}
			checkFound(t, "LookInherited "+key, value, ok, want, wantOK)
			if e, is := wantEntry(l, spot{s, key}); is {
				checkFound(t, "LookInherited of its own "+key, value, ok, e.Value, true)
				own++
			} else if ok {
				far++
			}
		}
	})
	enough(t, "keys of the section", own, 5000)
	enough(t, "keys of bases", far, 5000)
}

func TestP62InheritedValuesExpandWhereTheyComeFrom(t *testing.T) {
	ends := map[int]int{}
	eachBaseSection(t, func(t *testing.T, l impl.Layer, s string) {
		for _, key := range []string{"x", "y", "z", "base", "no"} {
			want, wantHow := "", impl.ExMissing
			from, ok := impl.SourceOf(l, s, key)
			if ok {
				want, wantHow = impl.ExpandValue(l, from, key)
			}
			got, how := impl.ExpandInherited(l, s, key)
			checkMade(t, "ExpandInherited "+key, got, how, want, wantHow)
			if ok && from != s {
				ends[how]++
			}
		}
	})
	enough(t, "inherited values expand", ends[impl.ExOk], 2000)
	enough(t, "inherited values have missing references", ends[impl.ExMissing], 100)
	enough(t, "inherited values have cycles", ends[impl.ExCycle], 20)
	enough(t, "inherited values are wrong", ends[impl.ExBad], 20)
}

func TestP63InheritedKeysHaveValues(t *testing.T) {
	n := 0
	eachBaseSection(t, func(t *testing.T, l impl.Layer, s string) {
		keys := impl.KeysInherited(l, s)
		if !namesOnce(keys) || slices.Contains(keys, "base") {
			t.Errorf("KeysInherited = %q", keys)
		}
		for _, key := range append(slices.Clone(keys), "x", "y", "z", "q", "abcdefgh", "no", "", "X") {
			_, ok := impl.LookInherited(l, s, key)
			if ok != slices.Contains(keys, key) {
				t.Errorf("LookInherited %q = %v; KeysInherited = %q", key, ok, keys)
			}
		}
		n += len(keys)
	})
	enough(t, "keys", n, 10000)
}

func TestP64FlatSectionsTellWhatIsInherited(t *testing.T) {
	flatBaseLayers(t, func(t *testing.T, l, flat impl.Layer) {
		for _, s := range askedSections {
			checkTexts(t, "KeysInherited in FlattenSections", impl.KeysInherited(flat, s), impl.KeysInherited(l, s))
			checkTexts(t, "BasesOf in FlattenSections", impl.BasesOf(flat, s), nil)
			checkTexts(t, "HeirsOf in FlattenSections", impl.HeirsOf(flat, s), nil)
		}
		if slices.ContainsFunc(flat.Entries, func(e impl.Entry) bool { return e.Key == "base" }) {
			t.Errorf("FlattenSections = %+v", flat)
		}
		again, ok := impl.FlattenSections(flat)
		if !ok || !impl.SameLayers(again, flat) {
			t.Errorf("FlattenSections twice = %+v, %v", again, ok)
		}
	})
}

// whole reports whether all that a key in a section leads to has an entry, both in a layer and in its flat one.
func whole(l, flat impl.Layer, s, key string) bool {
	from, _ := impl.SourceOf(l, s, key)
	return !slices.ContainsFunc(wantDepends(l, impl.Ref{Section: from, Key: key}), func(r impl.Ref) bool {
		_, before := refEntry(l, r)
		_, after := refEntry(flat, r)
		return !before || !after
	})
}

func TestP65FlatSectionsExpandAlike(t *testing.T) {
	far, retold := 0, 0
	flatBaseLayers(t, func(t *testing.T, l, flat impl.Layer) {
		for _, e := range flat.Entries {
			if !whole(l, flat, e.Section, e.Key) {
				continue
			}
			want, wantHow := impl.ExpandInherited(l, e.Section, e.Key)
			got, how := impl.ExpandValue(flat, e.Section, e.Key)
			checkMade(t, "ExpandValue of "+e.Section+"."+e.Key, got, how, want, wantHow)
			if from, _ := impl.SourceOf(l, e.Section, e.Key); from != e.Section {
				far++
				if strings.Contains(e.Value, "${") {
					retold++
				}
			}
		}
	})
	enough(t, "values are inherited", far, 1000)
	enough(t, "values with references are inherited", retold, 300)
}

func TestP66HeirsHaveWhatTheyInherit(t *testing.T) {
	n := 0
	eachBaseSection(t, func(t *testing.T, l impl.Layer, s string) {
		keys := impl.KeysInherited(l, s)
		heirs := impl.HeirsOf(l, s)
		if !slices.Equal(onceEach(heirs), heirs) || slices.Contains(heirs, s) {
			t.Errorf("HeirsOf = %q", heirs)
		}
		for _, heir := range heirs {
			has := impl.KeysInherited(l, heir)
			for _, key := range keys {
				if n++; !slices.Contains(has, key) {
					t.Errorf("KeysInherited of %q = %q; of its base %q", heir, has, keys)
				}
			}
		}
		for _, heir := range impl.LayerSections(l) {
			if heir != s && slices.Contains(impl.BasesOf(l, heir), s) && !slices.Contains(heirs, heir) {
				t.Errorf("HeirsOf = %q, without %q", heirs, heir)
			}
		}
	})
	enough(t, "keys of heirs", n, 5000)
}

func TestP67WhatIsRedundantCanGo(t *testing.T) {
	n := 0
	eachBaseSection(t, func(t *testing.T, l impl.Layer, s string) {
		keys := impl.KeysInherited(l, s)
		for _, key := range impl.RedundantIn(l, s) {
			n++
			was, _ := impl.LookInherited(l, s, key)
			cut, ok := impl.CutEntry(l, s, key)
			if !ok || len(impl.KeysInherited(cut, s)) != len(keys) {
				t.Errorf("KeysInherited = %q without %q; before %q", impl.KeysInherited(cut, s), key, keys)
			}
			value, ok := impl.LookInherited(cut, s, key)
			from, _ := impl.SourceOf(cut, s, key)
			if !ok || from == s || impl.RetellText(from, s, value) != was {
				t.Errorf("LookInherited %q = %q, %v of %q; before %q", key, value, ok, from, was)
			}
		}
	})
	enough(t, "keys are redundant", n, 1000)
}

func TestP68PrunedLayersTellTheSame(t *testing.T) {
	n := 0
	eachLayer(t, baseLayers(), func(t *testing.T, l impl.Layer) {
		pruned := impl.PruneSections(l)
		at := 0
		for _, e := range pruned.Entries {
			next := slices.Index(l.Entries[at:], e)
			if next < 0 {
				t.Fatalf("PruneSections = %+v", pruned)
			}
			at += next + 1
		}
		for _, s := range askedSections {
			have, want := impl.KeysInherited(pruned, s), impl.KeysInherited(l, s)
			slices.Sort(have)
			slices.Sort(want)
			checkTexts(t, "KeysInherited of "+s+" in PruneSections", have, want)
			checkTexts(t, "BasesOf "+s+" in PruneSections", impl.BasesOf(pruned, s), impl.BasesOf(l, s))
		}
		n += len(l.Entries) - len(pruned.Entries)
	})
	enough(t, "entries are pruned", n, 1000)
}

func TestP69AddedBasesAreDroppedAgain(t *testing.T) {
	n := 0
	eachBaseSection(t, func(t *testing.T, l impl.Layer, s string) {
		for _, b := range []string{"a", "c", "q", "abcdefgh", s} {
			more, ok := impl.AddBase(l, s, b)
			if !ok {
				continue
			}
			n++
			less, ok := impl.DropBase(more, s, b)
			if !ok {
				t.Errorf("DropBase %q fails in %+v", b, more)
			}
			checkTexts(t, "BasesOf after DropBase", impl.BasesOf(less, s), impl.BasesOf(l, s))
			if _, has := wantEntry(less, spot{s, "base"}); has && len(impl.BasesOf(l, s)) == 0 {
				t.Errorf("DropBase keeps an entry without bases in %+v", less)
			}
		}
	})
	enough(t, "bases are added", n, 5000)
}

func TestP70DroppedBasesAreGone(t *testing.T) {
	last, more := 0, 0
	eachBaseSection(t, func(t *testing.T, l impl.Layer, s string) {
		bases := impl.BasesOf(l, s)
		for i, b := range bases {
			less, ok := impl.DropBase(l, s, b)
			if !ok {
				t.Errorf("DropBase %q fails", b)
			}
			checkTexts(t, "BasesOf after DropBase", impl.BasesOf(less, s), slices.Delete(slices.Clone(bases), i, i+1))
			if _, ok := impl.DropBase(less, s, b); ok {
				t.Errorf("DropBase %q twice", b)
			}
			if len(bases) == 1 {
				last++
			} else {
				more++
			}
		}
	})
	enough(t, "bases were the last ones", last, 1000)
	enough(t, "bases were some of more", more, 1000)
}

func TestP133PrunedSectionsAreFlatAsBefore(t *testing.T) {
	n := 0
	flatBaseLayers(t, func(t *testing.T, l, flat impl.Layer) {
		if slices.ContainsFunc(askedSections, func(s string) bool { return impl.IsCircular(l, s) }) {
			return
		}
		pruned := impl.PruneSections(l)
		again, ok := impl.FlattenSections(pruned)
		if !ok {
			t.Errorf("FlattenSections of %+v fails", pruned)
		}
		if len(pruned.Entries) < len(l.Entries) {
			n++
		}
		for _, e := range again.Entries {
			if !slices.Contains(flat.Entries, e) {
				t.Errorf("FlattenSections of PruneSections has %+v; before %+v", e, flat)
			}
		}
		if len(again.Entries) != len(flat.Entries) {
			t.Errorf("FlattenSections of PruneSections = %+v; before %+v", again, flat)
		}
	})
	enough(t, "layers are pruned", n, 300)
}

func TestP134WithoutABaseThereAreNoMoreKeys(t *testing.T) {
	n, gone := 0, 0
	eachBaseSection(t, func(t *testing.T, l impl.Layer, s string) {
		for _, b := range impl.BasesOf(l, s) {
			less, _ := impl.DropBase(l, s, b)
			for _, other := range askedSections {
				have, before := impl.KeysInherited(less, other), impl.KeysInherited(l, other)
				for _, key := range have {
					if n++; !slices.Contains(before, key) {
						t.Errorf("KeysInherited of %q = %q after DropBase %q of %q; before %q", other, have, b, s, before)
					}
				}
				gone += len(before) - len(have)
			}
		}
	})
	enough(t, "keys", n, 5000)
	enough(t, "keys are gone", gone, 1000)
}
