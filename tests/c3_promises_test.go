package tests

import (
	"slices"
	"strings"
	"testing"

	"loop.example/settinglayers/impl"
)

// The tests of this file have the numbers of the document's promises.

// refSections are sections in which texts are read.
var refSections = []string{"", "a", "b", "abcdefgh"}

// goodRefs returns those of someRefs that are places.
func goodRefs() []impl.Ref {
	return slices.DeleteFunc(someRefs(), func(r impl.Ref) bool { return !isPlace(r) })
}

// eachText calls check with each of refTexts that is a value, in each of refSections, until one fails.
func eachText(t *testing.T, check func(t *testing.T, s, text string)) {
	t.Helper()
	for _, text := range refTexts() {
		if !impl.ValidValue(text) {
			continue
		}
		for _, s := range refSections {
			if check(t, s, text); t.Failed() {
				t.Fatalf("for the text %q in the section %q", text, s)
			}
		}
	}
}

// eachRetold calls check with each text that is retold in another section, if it is not too long there.
func eachRetold(t *testing.T, check func(t *testing.T, s, into, text, told string)) {
	t.Helper()
	n := 0
	eachText(t, func(t *testing.T, s, text string) {
		for _, into := range refSections {
			if told := impl.RetellText(s, into, text); len(told) <= 40 {
				check(t, s, into, text, told)
				if told != text {
					n++
				}
			}
		}
	})
	if n < 1000 {
		t.Errorf("just %d texts are retold in another way", n)
	}
}

// eachMove calls check with each key of some layers that moves, until one fails.
func eachMove(t *testing.T, list []impl.Layer, check func(t *testing.T, l impl.Layer, from, to impl.Ref, moved impl.Layer)) {
	t.Helper()
	n := 0
	eachLayer(t, list, func(t *testing.T, l impl.Layer) {
		for _, e := range l.Entries {
			for _, to := range []impl.Ref{{Section: "c", Key: "new"}, {Section: "a", Key: "new"}, {Key: "new"}, {Key: "y"}, {Section: "b", Key: "z"}} {
				if moved, ok := impl.MoveKey(l, entryRef(e), to); ok {
					check(t, l, entryRef(e), to, moved)
					n++
				}
				if t.Failed() {
					t.Fatalf("MoveKey of %+v to %+v", entryRef(e), to)
				}
			}
		}
	})
	if n < 1000 {
		t.Errorf("just %d keys move", n)
	}
}

func TestP40ReferencesHavePlaces(t *testing.T) {
	n := 0
	eachText(t, func(t *testing.T, s, text string) {
		refs, _ := impl.RefsOf(s, text)
		for _, r := range refs {
			n++
			if r.Section != "" && !impl.ValidName(r.Section) || !impl.ValidName(r.Key) {
				t.Errorf("RefsOf has %+v", r)
			}
			again, ok := impl.RefsOf(s, impl.RefText(s, r))
			if checkRefs(t, "RefsOf RefText", again, []impl.Ref{r}); !ok {
				t.Errorf("RefsOf RefText of %+v fails", r)
			}
		}
	})
	if n < 1000 {
		t.Errorf("just %d references", n)
	}
}

func TestP41EscapedTextsHaveNoReferences(t *testing.T) {
	l := lay("x=1", "a.x=2", "b.x=3", "abcdefgh.x=4")
	n := 0
	eachText(t, func(t *testing.T, s, text string) {
		escaped := impl.EscapeText(text)
		if len(escaped) > 40 {
			return
		}
		refs, ok := impl.RefsOf(s, escaped)
		if !ok || len(refs) != 0 {
			t.Errorf("RefsOf EscapeText = %+v, %v", refs, ok)
		}
		for _, in := range []impl.Layer{l, {}} {
			got, how := impl.ExpandText(in, s, escaped)
			checkMade(t, "ExpandText of EscapeText", got, how, text, impl.ExOk)
		}
		if escaped != text {
			n++
		}
	})
	if n < 1000 {
		t.Errorf("just %d texts are escaped", n)
	}
}

func TestP42TextsOfReferencesAreRead(t *testing.T) {
	for _, r := range append(goodRefs(), impl.Ref{Section: "abcdefgh", Key: "x"}, impl.Ref{Section: "x", Key: "abcdefgh"}) {
		own := impl.RefText(r.Section, r)
		for _, s := range append(refSections, r.Section, "c", "x") {
			text := impl.RefText(s, r)
			refs, ok := impl.RefsOf(s, text)
			if checkRefs(t, "RefsOf RefText", refs, []impl.Ref{r}); !ok {
				t.Errorf("RefsOf(%q, %q) fails", s, text)
			}
			if s == r.Section && text != own || s != r.Section && len(text) <= len(own) {
				t.Errorf("RefText(%q, %+v) = %q, in its own section %q", s, r, text, own)
			}
		}
		if own != "${"+r.Key+"}" {
			t.Errorf("RefText of %+v = %q in its own section", r, own)
		}
	}
}

func TestP43RetoldTextsMeanTheSame(t *testing.T) {
	eachRetold(t, func(t *testing.T, s, into, text, told string) {
		was, wasOK := impl.RefsOf(s, text)
		refs, ok := impl.RefsOf(into, told)
		if checkRefs(t, "RefsOf RetellText in "+into, refs, was); ok != wasOK {
			t.Errorf("RefsOf(%q, %q) = %v", into, told, ok)
		}
		if again := impl.RetellText(into, into, told); again != told {
			t.Errorf("RetellText(%q, %q, %q) = %q", into, into, told, again)
		}
	})
}

func TestP44ExpandedTextsAreWhole(t *testing.T) {
	plain, none := 0, 0
	eachText(t, func(t *testing.T, s, text string) {
		refs, ok := impl.RefsOf(s, text)
		if !ok || len(refs) > 0 {
			return
		}
		for _, l := range []impl.Layer{{}, lay("x=1", "a.x=$", "b.x=${x}")} {
			got, how := impl.ExpandText(l, s, text)
			checkMade(t, "ExpandText", got, how, strings.ReplaceAll(text, "$$", "$"), impl.ExOk)
		}
		if plain++; !strings.Contains(text, "$") {
			none++
		}
	})
	if none < 100 || plain < none+100 {
		t.Errorf("just %d texts without references, %d of them without $", plain, none)
	}
}

func TestP45ReferencesAreValues(t *testing.T) {
	eachLayer(t, refLayers(), func(t *testing.T, l impl.Layer) {
		refs := goodRefs()
		for _, e := range l.Entries {
			refs = append(refs, entryRef(e))
		}
		for _, r := range refs {
			value, how := impl.ExpandValue(l, r.Section, r.Key)
			for _, s := range []string{"", "a", r.Section} {
				got, gotHow := impl.ExpandText(l, s, impl.RefText(s, r))
				checkMade(t, "ExpandText of RefText", got, gotHow, value, how)
			}
		}
	})
}

func TestP46RetoldTextsExpandAlike(t *testing.T) {
	list := []impl.Layer{{}, lay("x=1", "a.x=2", "b.x=3"), lay("x=${a:x}", "a.x=${b:x}$$", "b.x=4${abcdefgh:x}", "abcdefgh.x=5"), lay("x=${x}", "a.x=${no}", "b.x=$")}
	eachRetold(t, func(t *testing.T, s, into, text, told string) {
		for _, l := range list {
			value, how := impl.ExpandText(l, s, text)
			got, gotHow := impl.ExpandText(l, into, told)
			checkMade(t, "ExpandText of RetellText in "+into, got, gotHow, value, how)
		}
	})
	eachLayer(t, refLayers(), func(t *testing.T, l impl.Layer) {
		for _, e := range l.Entries {
			value, how := impl.ExpandText(l, e.Section, e.Value)
			if told := impl.RetellText(e.Section, "b", e.Value); len(told) <= 40 {
				got, gotHow := impl.ExpandText(l, "b", told)
				checkMade(t, "ExpandText of RetellText", got, gotHow, value, how)
			}
		}
	})
}

func TestP47ValuesExpandWithoutCycles(t *testing.T) {
	eachLayer(t, refLayers(), func(t *testing.T, l impl.Layer) {
		cyclic, missing := impl.CyclicKeys(l), impl.MissingRefs(l)
		for _, e := range l.Entries {
			_, how := impl.ExpandValue(l, e.Section, e.Key)
			needs := impl.DependsOn(l, e.Section, e.Key)
			if how == impl.ExCycle && !slices.ContainsFunc(needs, func(r impl.Ref) bool { return slices.Contains(cyclic, r) }) {
				t.Errorf("ExpandValue of %+v ends with a cycle, without one in %+v", e, needs)
			}
			if how == impl.ExMissing && !slices.ContainsFunc(needs, func(r impl.Ref) bool { return slices.Contains(missing, r) }) {
				t.Errorf("ExpandValue of %+v ends with one missing, without one in %+v", e, needs)
			}
			if how == impl.ExOk && slices.ContainsFunc(needs, func(r impl.Ref) bool { return slices.Contains(cyclic, r) || slices.Contains(missing, r) }) {
				t.Errorf("ExpandValue of %+v ends well, with %+v", e, needs)
			}
		}
	})
}

func TestP48ExpandedLayersHaveNoReferences(t *testing.T) {
	eachLayer(t, goodRefLayers(t), func(t *testing.T, l impl.Layer) {
		all, ok := impl.ExpandAll(l)
		if !ok || len(all.Entries) != len(l.Entries) {
			t.Fatalf("ExpandAll = %+v, %v", all, ok)
		}
		for i, e := range all.Entries {
			value, how := impl.ExpandValue(l, l.Entries[i].Section, l.Entries[i].Key)
			if spotOf(e) != spotOf(l.Entries[i]) || e.Op != impl.OpSet || e.Value != strings.ReplaceAll(value, "$", "$$") {
				t.Errorf("ExpandAll has %+v", e)
			}
			text, textHow := impl.ExpandText(impl.Layer{}, e.Section, e.Value)
			checkMade(t, "ExpandText in nothing", text, textHow, value, how)
			if refs, ok := impl.RefsOf(e.Section, e.Value); !ok || len(refs) != 0 {
				t.Errorf("RefsOf %+v = %+v, %v", e, refs, ok)
			}
		}
		again, ok := impl.ExpandAll(all)
		checkLayer(t, "ExpandAll twice", again, ok, all.Entries, true)
	})
}

func TestP49WhatExpandsHasAnOrder(t *testing.T) {
	n := 0
	eachLayer(t, refLayers(), func(t *testing.T, l impl.Layer) {
		if _, ok := impl.ExpandAll(l); !ok {
			return
		}
		n++
		checkRefs(t, "MissingRefs", impl.MissingRefs(l), nil)
		checkRefs(t, "CyclicKeys", impl.CyclicKeys(l), nil)
		if order, ok := impl.OrderOf(l); !ok || len(order) != len(l.Entries) {
			t.Errorf("OrderOf = %v, %v", order, ok)
		}
	})
	if n < 300 {
		t.Errorf("just %d layers expand", n)
	}
}

func TestP50MissingReferencesHaveNoEntry(t *testing.T) {
	n := 0
	eachLayer(t, refLayers(), func(t *testing.T, l impl.Layer) {
		missing := impl.MissingRefs(l)
		full := l
		for i, r := range missing {
			if _, has := refEntry(l, r); has || slices.Contains(missing[:i], r) {
				t.Errorf("MissingRefs = %+v", missing)
			}
			more, ok := impl.PutEntry(full, impl.Entry{Section: r.Section, Key: r.Key})
			if !ok && len(full.Entries) < 20 {
				t.Errorf("PutEntry of %+v fails", r)
			}
			if !ok {
				return
			}
			full = more
		}
		if n += len(missing); len(impl.MissingRefs(full)) != 0 {
			t.Errorf("MissingRefs = %+v, then %+v", missing, impl.MissingRefs(full))
		}
	})
	if n < 500 {
		t.Errorf("just %d references are missing", n)
	}
}

func TestP51WhatIsNeededNeedsMore(t *testing.T) {
	eachLayer(t, refLayers(), func(t *testing.T, l impl.Layer) {
		for _, e := range l.Entries {
			needs := impl.DependsOn(l, e.Section, e.Key)
			own, _ := impl.RefsOf(e.Section, e.Value)
			for i, r := range needs {
				if slices.Contains(needs[:i], r) {
					t.Errorf("DependsOn %+v = %+v", e, needs)
				}
				own = append(own, impl.DependsOn(l, r.Section, r.Key)...)
			}
			for _, r := range own {
				if !slices.Contains(needs, r) {
					t.Errorf("DependsOn %+v = %+v, without %+v", e, needs, r)
				}
			}
		}
	})
}

func TestP52CyclesStopOrders(t *testing.T) {
	eachLayer(t, refLayers(), func(t *testing.T, l impl.Layer) {
		cyclic := impl.CyclicKeys(l)
		if order, ok := impl.OrderOf(l); ok != (len(cyclic) == 0) {
			t.Errorf("OrderOf = %v, %v; CyclicKeys = %+v", order, ok, cyclic)
		}
		for _, e := range l.Entries {
			r := entryRef(e)
			if slices.Contains(cyclic, r) != slices.Contains(impl.DependsOn(l, r.Section, r.Key), r) {
				t.Errorf("CyclicKeys = %+v; DependsOn(%+v) = %+v", cyclic, r, impl.DependsOn(l, r.Section, r.Key))
			}
		}
	})
}

func TestP53UsersDepend(t *testing.T) {
	cuts := 0
	eachLayer(t, refLayers(), func(t *testing.T, l impl.Layer) {
		for _, e := range l.Entries {
			users := impl.UsersOf(l, e.Section, e.Key)
			for _, u := range users {
				if needs := impl.DependsOn(l, u.Section, u.Key); !slices.Contains(needs, entryRef(e)) {
					t.Errorf("DependsOn %+v = %+v, without %+v", u, needs, e)
				}
			}
			cut, _ := impl.CutEntry(l, e.Section, e.Key)
			missing := impl.MissingRefs(cut)
			if len(users) > 0 {
				// Who uses just itself is gone with it.
				alone := len(users) == 1 && users[0] == entryRef(e)
				if slices.Contains(missing, entryRef(e)) == alone {
					t.Errorf("MissingRefs = %+v without %+v, which %+v use", missing, e, users)
				}
				continue
			}
			cuts++
			for _, r := range missing {
				if !slices.Contains(impl.MissingRefs(l), r) {
					t.Errorf("MissingRefs = %+v without %+v", missing, e)
				}
			}
		}
	})
	if cuts < 500 {
		t.Errorf("just %d keys are used by nobody", cuts)
	}
}

func TestP54OrdersHaveAllBehindWhatTheyNeed(t *testing.T) {
	n := 0
	eachLayer(t, refLayers(), func(t *testing.T, l impl.Layer) {
		order, ok := impl.OrderOf(l)
		if !ok {
			return
		}
		there := map[impl.Ref]bool{}
		for _, i := range order {
			e := l.Entries[i]
			refs, _ := impl.RefsOf(e.Section, e.Value)
			for _, r := range refs {
				if _, has := refEntry(l, r); has && !there[r] {
					t.Errorf("OrderOf = %v, with %+v ahead of %+v", order, e, r)
				}
				n++
			}
			if there[entryRef(e)] {
				t.Errorf("OrderOf = %v, with %+v twice", order, e)
			}
			there[entryRef(e)] = true
		}
		if len(order) != len(l.Entries) {
			t.Errorf("OrderOf = %v", order)
		}
	})
	if n < 500 {
		t.Errorf("just %d references are in an order", n)
	}
}

func TestP55MovedKeysExpandAlike(t *testing.T) {
	eachMove(t, someRefLayers(), func(t *testing.T, l impl.Layer, from, to impl.Ref, moved impl.Layer) {
		// A reference to the new place that was missing leads to the key then.
		had := len(impl.UsersOf(l, to.Section, to.Key)) > 0
		for _, e := range l.Entries {
			value, how := impl.ExpandValue(l, e.Section, e.Key)
			if had && how != impl.ExOk {
				continue
			}
			now := entryRef(e)
			if now == from {
				now = to
			}
			got, gotHow := impl.ExpandValue(moved, now.Section, now.Key)
			checkMade(t, "ExpandValue", got, gotHow, value, how)
		}
	})
}

func TestP56UsersMoveAlong(t *testing.T) {
	eachMove(t, someRefLayers(), func(t *testing.T, l impl.Layer, from, to impl.Ref, moved impl.Layer) {
		if len(impl.UsersOf(l, to.Section, to.Key)) > 0 {
			return
		}
		users := impl.UsersOf(l, from.Section, from.Key)
		for i := range users {
			if users[i] == from {
				users[i] = to
			}
		}
		checkRefs(t, "UsersOf the new place", impl.UsersOf(moved, to.Section, to.Key), users)
		checkRefs(t, "UsersOf the old place", impl.UsersOf(moved, from.Section, from.Key), nil)
	})
}

func TestP131RetoldBackIsAsRetoldInPlace(t *testing.T) {
	eachRetold(t, func(t *testing.T, s, into, text, told string) {
		want := impl.RetellText(s, s, text)
		if got := impl.RetellText(into, s, told); got != want {
			t.Errorf("RetellText(%q, %q, %q) = %q; want %q", into, s, told, got, want)
		}
	})
}

func TestP132MovedBackAllExpandsAlike(t *testing.T) {
	eachMove(t, goodRefLayers(t), func(t *testing.T, l impl.Layer, from, to impl.Ref, moved impl.Layer) {
		all, ok := impl.ExpandAll(l)
		if !ok {
			t.Error("ExpandAll fails")
		}
		back, ok := impl.MoveKey(moved, to, from)
		if !ok {
			t.Errorf("MoveKey back fails in %+v", moved)
		}
		got, ok := impl.ExpandAll(back)
		checkLayer(t, "ExpandAll", got, ok, all.Entries, true)
	})
}
