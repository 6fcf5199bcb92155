package tests

import (
	"slices"
	"strings"
	"testing"

	"loop.example/settinglayers/impl"
)

// The tests of this file have the numbers of the document's promises.

func TestP1NamesCanBeKeysAndSections(t *testing.T) {
	n := 0
	names := append(upTo(3, []string{"a", "z", "bas", "A", ".", " ", "é"}), "abcdefgh", "abcdefghi", "base", "zzzzzzzz")
	for _, name := range names {
		good := impl.ValidName(name)
		r, ok := impl.ParsePlace(name)
		if good && (!ok || r != impl.Ref{Key: name}) || !good && r == (impl.Ref{Key: name}) && ok {
			t.Errorf("ParsePlace(%q) = %+v, %v", name, r, ok)
		}
		for _, other := range []string{"x", "abcdefgh", "base", name} {
			told := impl.PlaceText(impl.Ref{Section: name, Key: other})
			if r, ok := impl.ParsePlace(name + "." + other); good && (!ok || r != impl.Ref{Section: name, Key: other} || told != name+"."+other) {
				t.Errorf("ParsePlace(%q) = %+v, %v; PlaceText = %q", name+"."+other, r, ok, told)
			} else if !good && (name != "" || other == name) && told != "" {
				t.Errorf("PlaceText of %q and %q = %q", name, other, told)
			}
		}
		if good {
			n++
		}
	}
	enough(t, "names", n, 30)
}

func TestP20MeaningIsOfLayers(t *testing.T) {
	same, other := 0, 0
	eachFilePair(t, func(t *testing.T, f, g fileOf) {
		means := impl.SameMeaning(f.File, g.File)
		if there, back := impl.EditsBetween(f.File, g.File), impl.EditsBetween(g.File, f.File); means != (len(there) == 0) || means != (len(back) == 0) || means != impl.SameMeaning(g.File, f.File) {
			t.Errorf("SameMeaning = %v; EditsBetween = %+v and %+v", means, there, back)
		}
		tidy := impl.TidyFile(f.File)
		if !impl.SameMeaning(f.File, tidy) || !impl.SameMeaning(tidy, f.File) || len(impl.EditsBetween(f.File, tidy)) != 0 || len(impl.EditsBetween(tidy, f.File)) != 0 {
			t.Error("the tidy file does not mean the same")
		}
		if means {
			same++
		} else {
			other++
		}
	})
	enough(t, "files mean the same", same, 500)
	enough(t, "files mean something else", other, 2000)
}

// TestP32NoEditCanBeLeftOut is about patches as edits; those of layers are with the promises of chapter 2.
func TestP32NoEditCanBeLeftOut(t *testing.T) {
	n := 0
	eachFilePair(t, func(t *testing.T, f, g fileOf) {
		list := impl.EditsBetween(f.File, g.File)
		for i := range list {
			h, ok := impl.ApplyEdits(f.File, slices.Delete(slices.Clone(list), i, i+1))
			if n++; ok && impl.SameMeaning(h, g.File) {
				t.Errorf("EditsBetween = %+v, also without the edit %d", list, i)
			}
		}
	})
	enough(t, "edits", n, 5000)
}

// TestP40PlacesOfReferencesHaveTexts is about places as texts; more of references is with the promises of chapter 3.
func TestP40PlacesOfReferencesHaveTexts(t *testing.T) {
	n := 0
	eachText(t, func(t *testing.T, s, text string) {
		refs, _ := impl.RefsOf(s, text)
		for _, r := range refs {
			n++
			if back, ok := impl.ParsePlace(impl.PlaceText(r)); !ok || back != r {
				t.Errorf("ParsePlace of PlaceText of %+v = %+v, %v", r, back, ok)
			}
			again, ok := impl.RefsOf(s, impl.RefText(s, r))
			if checkRefs(t, "RefsOf RefText", again, []impl.Ref{r}); !ok {
				t.Errorf("RefsOf RefText of %+v fails", r)
			}
		}
	})
	enough(t, "references", n, 1000)
}

// eachMerged calls check with each of layerThrees that is merged, and the layer that they make.
func eachMerged(t *testing.T, check func(t *testing.T, base, a, b, m impl.Layer)) {
	t.Helper()
	n := 0
	eachThree(t, func(t *testing.T, base, a, b impl.Layer) {
		if m, ok := impl.Merge3(base, a, b); ok {
			n++
			check(t, base, a, b, m)
		}
	})
	enough(t, "layers are merged", n, 5000)
}

func TestP102MergedLayersHaveWhatOneOfBothHas(t *testing.T) {
	mine, other := 0, 0
	eachMerged(t, func(t *testing.T, base, a, b, m impl.Layer) {
		for _, p := range spotsUp(base, a, b, m) {
			was, is := hasAt(base, p), hasAt(m, p)
			if hasAt(a, p) == was && is != hasAt(b, p) || hasAt(b, p) == was && is != hasAt(a, p) {
				t.Errorf("Merge3 has %q for %+v", is, p)
			}
			if hasAt(a, p) == hasAt(b, p) && is != hasAt(a, p) || is != hasAt(a, p) && is != hasAt(b, p) {
				t.Errorf("Merge3 has %q for %+v, not what one of both has", is, p)
			}
			if is != hasAt(a, p) {
				other++
			}
			if is != hasAt(b, p) {
				mine++
			}
		}
	})
	enough(t, "places are as a has them alone", mine, 2000)
	enough(t, "places are as b has them alone", other, 2000)
}

// backwards returns a layer with its entries in the other order.
func backwards(l impl.Layer) impl.Layer {
	back := impl.Layer{Entries: slices.Clone(l.Entries)}
	slices.Reverse(back.Entries)
	return back
}

func TestP103MergingNothingIsNothing(t *testing.T) {
	n := 0
	eachPair(t, flatLayers(), flatLayers(), func(t *testing.T, base, l impl.Layer) {
		for _, c := range [][3]impl.Layer{{base, base, l}, {base, l, base}, {base, backwards(base), l}, {base, l, backwards(base)}, {base, l, l}, {base, l, backwards(l)}} {
			m, ok := impl.Merge3(c[0], c[1], c[2])
			if !ok || !impl.SameLayers(m, l) || len(impl.ConflictsOf(c[0], c[1], c[2])) != 0 {
				t.Errorf("Merge3(%+v) = %+v, %v, with the conflicts %+v", c, m, ok, impl.ConflictsOf(c[0], c[1], c[2]))
			}
			n += len(m.Entries)
		}
	})
	enough(t, "entries", n, 5000)
}

// sameRefs reports whether two lists have the same different places in whatever order.
func sameRefs(a, b []impl.Ref) bool {
	for _, r := range a {
		if !slices.Contains(b, r) {
			return false
		}
	}
	return len(a) == len(b)
}

func TestP104ConflictsAreWhereBothDiffer(t *testing.T) {
	fine, conflicts := 0, 0
	eachThree(t, func(t *testing.T, base, a, b impl.Layer) {
		refs, other := impl.ConflictsOf(base, a, b), impl.ConflictsOf(base, b, a)
		if !sameRefs(refs, other) {
			t.Errorf("ConflictsOf = %+v, and %+v from the other side", refs, other)
		}
		m, ok := impl.Merge3(base, a, b)
		n, can := impl.Merge3(base, b, a)
		if len(refs) == 0 && (ok != can || !sameSet(m.Entries, n.Entries)) {
			t.Errorf("Merge3 = %+v, %v, and %+v, %v from the other side", m, ok, n, can)
		}
		for _, p := range spotsUp(m, n) {
			if ok && can && (hasAt(m, p) != hasAt(n, p)) && !slices.Contains(refs, spotRef(p)) {
				t.Errorf("Merge3 has something else from the other side for %+v, which is no conflict", p)
			}
		}
		for _, r := range refs {
			p := spot{r.Section, r.Key}
			if was, mine, its := hasAt(base, p), hasAt(a, p), hasAt(b, p); mine == was || its == was || mine == its {
				t.Errorf("ConflictsOf has %+v", r)
			}
		}
		if conflicts += len(refs); len(refs) == 0 {
			fine++
		}
	})
	enough(t, "threes without conflicts", fine, 1000)
	enough(t, "conflicts", conflicts, 5000)
}

func TestP105WithoutConflictsPatchesGoOneOverTheOther(t *testing.T) {
	n := 0
	eachMerged(t, func(t *testing.T, base, a, b, m impl.Layer) {
		patch, ok := impl.PatchLayers(base, a)
		if !ok || len(impl.ConflictsOf(base, a, b)) > 0 {
			return
		}
		if got := flatOf(t, patch, b); !sameSet(got, m.Entries) {
			t.Errorf("Flatten of the patch over b = %+v; Merge3 = %+v", got, m)
		}
		n++
	})
	enough(t, "merges without conflicts", n, 1000)
}

func TestP106ChangesAreCountedBothWays(t *testing.T) {
	n := 0
	check := func(t *testing.T, a, b impl.Layer) {
		more, less, turned := impl.CountChanges(a, b)
		back, forth, again := impl.CountChanges(b, a)
		if more != forth || less != back || turned != again {
			t.Errorf("CountChanges = %d, %d, %d, the other way round %d, %d, %d", more, less, turned, back, forth, again)
		}
		if same := impl.SameLayers(a, b); same != (more == 0 && less == 0 && turned == 0) || same != (more+less+turned == 0) {
			t.Errorf("CountChanges = %d, %d, %d", more, less, turned)
		}
		if len(a.Entries)+more-less != len(b.Entries) {
			t.Errorf("CountChanges = %d, %d, %d", more, less, turned)
		}
		if more > 0 && less > 0 && turned > 0 {
			n++
		}
	}
	eachPair(t, flatLayers(), flatLayers(), check)
	eachThree(t, func(t *testing.T, base, a, b impl.Layer) {
		check(t, base, a)
		check(t, a, backwards(a))
		check(t, a, b)
	})
	enough(t, "layers have all changes", n, 1000)
}

func TestP107EditsLeadThere(t *testing.T) {
	n, long := 0, 0
	eachFilePair(t, func(t *testing.T, f, g fileOf) {
		list := impl.EditsBetween(f.File, g.File)
		h, ok := impl.ApplyEdits(f.File, list)
		if ok && (!impl.SameMeaning(h, g.File) || len(impl.EditsBetween(h, g.File)) != 0) {
			t.Errorf("ApplyEdits = %q", impl.FileText(h))
		}
		// Each edit needs two lines at most.
		if room := 20 - len(f.Lines); !ok && 2*len(list) <= room {
			t.Errorf("ApplyEdits fails with room for %d lines", room)
		}
		if !ok {
			long++
		} else if len(list) > 0 {
			n++
		}
	})
	enough(t, "files are edited", n, 3000)
	enough(t, "files have no room", long, 20)
}

func TestP108EditsGoOneByOne(t *testing.T) {
	n := 0
	eachEdits(t, func(t *testing.T, f fileOf, list []impl.Edit) {
		all, ok := impl.ApplyEdits(f.File, list)
		for i := range len(list) + 1 {
			first, can := impl.ApplyEdits(f.File, list[:i])
			both := impl.File{}
			if can {
				both, can = impl.ApplyEdits(first, list[i:])
			}
			if n++; can != ok || !sameFile(all, both) {
				t.Errorf("ApplyEdits = %q, %v, and %q, %v by %d edits first", impl.FileText(all), ok, impl.FileText(both), can, i)
			}
		}
	})
	enough(t, "parts of edits", n, 10000)
}

// keptLines returns the notes and blank lines of a file.
func keptLines(f impl.File) []impl.Line {
	return slices.DeleteFunc(slices.Clone(f.Lines), func(l impl.Line) bool { return l.Kind != impl.LnNote && l.Kind != impl.LnBlank })
}

func TestP109EditsKeepNotes(t *testing.T) {
	n := 0
	eachEdits(t, func(t *testing.T, f fileOf, list []impl.Edit) {
		g, ok := impl.ApplyEdits(f.File, list)
		if !ok {
			return
		}
		kept := keptLines(g)
		if !slices.Equal(kept, keptLines(f.File)) {
			t.Errorf("ApplyEdits = %q", impl.FileText(g))
		}
		if len(list) > 0 {
			n += len(kept)
		}
	})
	enough(t, "notes and blank lines", n, 2000)
}

func TestP110EditsAreUndone(t *testing.T) {
	n := 0
	eachEdits(t, func(t *testing.T, f fileOf, list []impl.Edit) {
		g, ok := impl.ApplyEdits(f.File, list)
		back, can := impl.InvertEdits(f.File, list)
		if ok != can {
			t.Errorf("InvertEdits = %+v, %v", back, can)
		}
		if !ok {
			return
		}
		h, can := impl.ApplyEdits(g, back)
		if can && !impl.SameMeaning(h, f.File) {
			t.Errorf("ApplyEdits of InvertEdits = %q", impl.FileText(h))
		}
		if room := 20 - len(g.Lines); !can && 2*len(back) <= room {
			t.Errorf("ApplyEdits of InvertEdits fails with room for %d lines", room)
		}
		if can && len(back) > 0 {
			n++
		}
	})
	enough(t, "edits are undone", n, 1000)
	// The head of a section that is new stays, so that not all lines of before have room again.
	f, list := parse(t, "x=1\ny=1\n"+strings.Repeat("\n", 18)), edits("x -", "y -", "a.z = 1")
	g, _ := impl.ApplyEdits(f, list)
	back, ok := impl.InvertEdits(f, list)
	if checkEdits(t, "InvertEdits", back, edits("a.z -", "x = 1", "y = 1")); !ok {
		t.Error("InvertEdits fails")
	}
	h, ok := impl.ApplyEdits(g, back)
	checkTurned(t, "ApplyEdits without room", h, ok, "", false)
}

func TestP111SquashedEditsAreOfDifferentKeys(t *testing.T) {
	n := 0
	eachEdits(t, func(t *testing.T, f fileOf, list []impl.Edit) {
		left := impl.SquashEdits(list)
		last := map[spot]impl.Edit{}
		for _, e := range list {
			last[spot{e.Section, e.Key}] = e
		}
		for _, e := range left {
			if last[spot{e.Section, e.Key}] != e {
				t.Errorf("SquashEdits has %+v", e)
			}
		}
		if len(left) != len(last) || len(left) > len(list) {
			t.Errorf("SquashEdits = %+v", left)
		}
		checkEdits(t, "SquashEdits twice", impl.SquashEdits(left), left)
		n += len(list) - len(left)
	})
	enough(t, "edits are left out", n, 5000)
}

func TestP112SquashedEditsMeanTheSame(t *testing.T) {
	n, gone := 0, 0
	eachEdits(t, func(t *testing.T, f fileOf, list []impl.Edit) {
		g, ok := impl.ApplyEdits(f.File, list)
		h, can := impl.ApplyEdits(f.File, impl.SquashEdits(list))
		switch {
		case ok && can && !impl.SameMeaning(g, h):
			t.Errorf("ApplyEdits of SquashEdits = %q, and of all %q", impl.FileText(h), impl.FileText(g))
		case ok && can && len(list) > 0:
			n++
		case ok && !can:
			gone++
		}
	})
	enough(t, "lists of edits", n, 300)
	// Without the edit that makes it a key cannot be dropped.
	enough(t, "lists of edits only all of which can be applied", gone, 100)
}

func TestP113RevertedKeysAreAsInTheOtherFile(t *testing.T) {
	n, long := 0, 0
	eachFilePair(t, func(t *testing.T, f, g fileOf) {
		eachPlace(func(s, key string) {
			value, has := impl.GetValue(g.File, s, key)
			was, had := impl.GetValue(f.File, s, key)
			r, ok := impl.RevertKey(f.File, g.File, s, key)
			if !ok {
				if long++; !has || had || len(f.Lines) < 19 {
					t.Errorf("RevertKey of %s.%s fails", s, key)
				}
				return
			}
			got, is := impl.GetValue(r, s, key)
			checkFound(t, "GetValue of "+s+"."+key, got, is, value, has)
			checkOthers(t, f.File, r, s, key)
			if same := was == value && had == has; same != sameFile(r, f.File) {
				t.Errorf("RevertKey of %s.%s = %q", s, key, impl.FileText(r))
			} else if !same {
				n++
			}
		})
	})
	enough(t, "keys are reverted", n, 5000)
	enough(t, "files have no room", long, 20)
}

func TestP114MergedFilesMeanWhatMergedLayersMean(t *testing.T) {
	n := 0
	eachFileThree(t, func(t *testing.T, base, a, b fileOf) {
		low, mine, other := impl.LayerOf(base.File), impl.LayerOf(a.File), impl.LayerOf(b.File)
		m, ok := impl.MergeFiles(base.File, a.File, b.File)
		if !ok {
			return
		}
		want, can := impl.Merge3(low, mine, other)
		if !can || !impl.SameLayers(impl.LayerOf(m), want) || len(impl.ConflictsOf(low, mine, other)) != 0 {
			t.Errorf("MergeFiles = %q; Merge3 = %+v, %v", impl.FileText(m), want, can)
		}
		if !slices.Equal(keptLines(m), keptLines(a.File)) {
			t.Errorf("MergeFiles = %q", impl.FileText(m))
		}
		if !sameFile(m, a.File) {
			n++
		}
	})
	enough(t, "files are merged", n, 1000)
}

// partsOfPlaces are texts of which some are sections, and some keys.
func partsOfPlaces() []string {
	return append(upTo(2, []string{"a", "z", "base", ".", " ", "-", "A"}), "abcdefgh", "abcdefghi", "é", "\n")
}

func TestP115PlacesAreReadBack(t *testing.T) {
	n := 0
	for _, s := range partsOfPlaces() {
		for _, key := range partsOfPlaces() {
			r := impl.Ref{Section: s, Key: key}
			text := impl.PlaceText(r)
			if (text != "") != isPlace(r) {
				t.Errorf("PlaceText(%+v) = %q", r, text)
			}
			if text == "" {
				continue
			}
			if back, ok := impl.ParsePlace(text); !ok || back != r {
				t.Errorf("ParsePlace(%q) = %+v, %v; want %+v", text, back, ok, r)
			}
			n++
		}
	}
	enough(t, "places", n, 100)
}

func TestP116PlacesAreWrittenBack(t *testing.T) {
	n := 0
	for _, s := range upTo(5, []string{"a", "zz", ".", "abcdefgh", "A", " ", "\n"}) {
		r, ok := impl.ParsePlace(s)
		if ok && impl.PlaceText(r) != s || !ok && r != (impl.Ref{}) || ok != placeForm.MatchString(s) {
			t.Errorf("ParsePlace(%q) = %+v, %v; PlaceText = %q", s, r, ok, impl.PlaceText(r))
		}
		if ok {
			n++
		}
	}
	enough(t, "places", n, 100)
}

func TestP117EditsAreReadBack(t *testing.T) {
	n := 0
	for _, s := range partsOfPlaces() {
		for _, key := range partsOfPlaces() {
			for _, value := range []string{"", "-", "=", "= 1", "a  b", "x -", strings.Repeat("v", 40), strings.Repeat("v", 41), " ", " 1", "1 ", "\n", "é"} {
				for _, drop := range []bool{false, true} {
					e := impl.Edit{Section: s, Key: key, Drop: drop, Value: value}
					text := impl.EditText(e)
					if (text != "") != (isPlace(impl.Ref{Section: s, Key: key}) && valueForm.MatchString(value) && (!drop || value == "")) {
						t.Errorf("EditText(%+v) = %q", e, text)
					}
					if text == "" {
						continue
					}
					if back, ok := impl.ParseEdit(text); !ok || back != e {
						t.Errorf("ParseEdit(%q) = %+v, %v; want %+v", text, back, ok, e)
					}
					n++
				}
			}
		}
	}
	eachFilePair(t, func(t *testing.T, f, g fileOf) {
		for _, e := range impl.EditsBetween(f.File, g.File) {
			if back, ok := impl.ParseEdit(impl.EditText(e)); !ok || back != e {
				t.Errorf("ParseEdit(%q) = %+v, %v", impl.EditText(e), back, ok)
			}
		}
	})
	enough(t, "edits", n, 500)
}

func TestP118EditsAreWrittenBack(t *testing.T) {
	n := 0
	for _, s := range upTo(5, []string{"a", ".", " ", "-", "=", " = ", " -", "b."}) {
		e, ok := impl.ParseEdit(s)
		if ok && impl.EditText(e) != s || !ok && e != (impl.Edit{}) || ok != editForm.MatchString(s) {
			t.Errorf("ParseEdit(%q) = %+v, %v; EditText = %q", s, e, ok, impl.EditText(e))
		}
		if ok {
			n++
		}
	}
	enough(t, "edits", n, 100)
}

func TestP137MergedFilesMeanTheSameFromBothSides(t *testing.T) {
	n := 0
	eachFileThree(t, func(t *testing.T, base, a, b fileOf) {
		m, ok := impl.MergeFiles(base.File, a.File, b.File)
		other, can := impl.MergeFiles(base.File, b.File, a.File)
		if !ok || !can {
			return
		}
		if !impl.SameMeaning(m, other) || !impl.SameMeaning(other, m) {
			t.Errorf("MergeFiles = %q, and %q from the other side", impl.FileText(m), impl.FileText(other))
		}
		if !sameFile(m, a.File) && !sameFile(other, b.File) {
			n++
		}
	})
	enough(t, "files are merged from both sides", n, 1000)
}
