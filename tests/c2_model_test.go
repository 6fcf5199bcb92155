package tests

import (
	"math/rand"
	"regexp"
	"slices"
	"strings"
	"testing"

	"loop.example/settinglayers/impl"
)

// spot is a section and a key.
type spot struct{ section, key string }

// nameForm and valueForm are what the document calls a name and a value.
var (
	nameForm  = regexp.MustCompile(`^[a-z]{1,8}$`)
	valueForm = regexp.MustCompile(`^([!-~]([ -~]{0,38}[!-~])?)?$`)
)

func spotOf(e impl.Entry) spot {
	return spot{e.Section, e.Key}
}

// lay returns the layer of entries told as a key, or a section, a point and a key, and
// = and a value for OpSet, + and a value for OpAdd, or - for OpDrop.
func lay(told ...string) impl.Layer {
	l := impl.Layer{}
	for _, s := range told {
		i := strings.IndexAny(s, "=+-")
		e := impl.Entry{Key: s[:i], Op: map[byte]int{'=': impl.OpSet, '+': impl.OpAdd, '-': impl.OpDrop}[s[i]], Value: s[i+1:]}
		if section, key, ok := strings.Cut(s[:i], "."); ok {
			e.Section, e.Key = section, key
		}
		l.Entries = append(l.Entries, e)
	}
	return l
}

// manyKeys returns the layer that sets the keys from the one with the number from, n of them, in a section.
func manyKeys(section string, from, n int) impl.Layer {
	l := impl.Layer{}
	for i := from; i < from+n; i++ {
		l.Entries = append(l.Entries, impl.Entry{Section: section, Key: "k" + string(rune('a'+i)), Value: "1"})
	}
	return l
}

// both returns the layer of the entries of all layers.
func both(layers ...impl.Layer) impl.Layer {
	l := impl.Layer{}
	for _, m := range layers {
		l.Entries = append(l.Entries, m.Entries...)
	}
	return l
}

// wantValid reports whether entries are those of a valid layer.
func wantValid(entries []impl.Entry) bool {
	met := map[spot]bool{}
	for _, e := range entries {
		section := e.Section == "" || nameForm.MatchString(e.Section)
		op := e.Op == impl.OpSet || e.Op == impl.OpAdd || e.Op == impl.OpDrop && e.Value == ""
		if met[spotOf(e)] || !section || !op || !nameForm.MatchString(e.Key) || !valueForm.MatchString(e.Value) {
			return false
		}
		met[spotOf(e)] = true
	}
	return len(entries) <= 20
}

// wantEntry returns the entry of a layer at a spot.
func wantEntry(l impl.Layer, p spot) (impl.Entry, bool) {
	i := slices.IndexFunc(l.Entries, func(e impl.Entry) bool { return spotOf(e) == p })
	if i < 0 {
		return impl.Entry{}, false
	}
	return l.Entries[i], true
}

// wantValue returns what Resolve has to tell. Unlike the program it goes from the top down.
func wantValue(stack []impl.Layer, p spot) (string, bool) {
	var parts []string
	for _, l := range stack {
		e, ok := wantEntry(l, p)
		if ok && e.Op != impl.OpDrop {
			parts = append([]string{e.Value}, parts...)
		}
		if ok && e.Op != impl.OpAdd {
			break
		}
	}
	return strings.Join(parts, ","), len(parts) > 0
}

// ended reports whether one of the layers hides what lies below it at a spot.
func ended(layers []impl.Layer, p spot) bool {
	return slices.ContainsFunc(layers, func(l impl.Layer) bool {
		e, ok := wantEntry(l, p)
		return ok && e.Op != impl.OpAdd
	})
}

// wantWhy returns what WhyValue has to tell.
func wantWhy(stack []impl.Layer, p spot) []int {
	var why []int
	for i, l := range stack {
		if _, ok := wantEntry(l, p); ok && !ended(stack[:i], p) {
			why = append(why, i)
		}
	}
	return why
}

// spotsUp returns the spots of a stack from the last layer up, each once.
func spotsUp(stack ...impl.Layer) []spot {
	var spots []spot
	for _, l := range slices.Backward(stack) {
		for _, e := range l.Entries {
			if !slices.Contains(spots, spotOf(e)) {
				spots = append(spots, spotOf(e))
			}
		}
	}
	return spots
}

// wantFlat returns the entries that Flatten has to lead to.
func wantFlat(stack []impl.Layer) ([]impl.Entry, bool) {
	var entries []impl.Entry
	for _, p := range spotsUp(stack...) {
		if value, ok := wantValue(stack, p); ok {
			entries = append(entries, impl.Entry{Section: p.section, Key: p.key, Value: value})
		}
	}
	return entries, wantValid(entries)
}

// wantMerged returns the entries that MergeLayers has to lead to.
func wantMerged(top, low impl.Layer) ([]impl.Entry, bool) {
	var entries []impl.Entry
	for _, p := range spotsUp(top, low) {
		over, hasOver := wantEntry(top, p)
		under, hasUnder := wantEntry(low, p)
		switch {
		case !hasOver:
			over = under
		case hasUnder && over.Op == impl.OpAdd && under.Op == impl.OpDrop:
			over.Op = impl.OpSet
		case hasUnder && over.Op == impl.OpAdd:
			over.Op, over.Value = under.Op, under.Value+","+over.Value
		}
		entries = append(entries, over)
	}
	return entries, wantValid(entries)
}

// wantPatch returns the entries that PatchLayers has to lead to.
func wantPatch(have, want []impl.Entry) ([]impl.Entry, bool) {
	var entries []impl.Entry
	for _, e := range have {
		if _, ok := wantEntry(impl.Layer{Entries: want}, spotOf(e)); !ok {
			entries = append(entries, impl.Entry{Section: e.Section, Key: e.Key, Op: impl.OpDrop})
		}
	}
	for _, e := range want {
		if !slices.Contains(have, e) {
			entries = append(entries, e)
		}
	}
	return entries, wantValid(entries)
}

// wantFileText returns the text of the file that FileOf has to lead to.
func wantFileText(l impl.Layer) (string, bool) {
	sections := []string{""}
	for _, e := range l.Entries {
		sections = append(sections, e.Section)
	}
	text := ""
	for _, s := range onceEach(sections) {
		if s != "" {
			text += "[" + s + "]\n"
		}
		for _, e := range l.Entries {
			if e.Section == s {
				text += e.Key + " = " + e.Value + "\n"
			}
		}
	}
	return text, strings.Count(text, "\n") <= 20
}

// sameSet reports whether two lists have the same entries in whatever order.
func sameSet(a, b []impl.Entry) bool {
	has := map[impl.Entry]int{}
	for _, e := range a {
		has[e]++
	}
	for _, e := range b {
		has[e]--
	}
	for _, n := range has {
		if n != 0 {
			return false
		}
	}
	return true
}

// someSpots are some that smallLayers and largeLayers have, and some that none has.
var someSpots = []spot{{"", "x"}, {"a", "x"}, {"b", "y"}, {"abcdefgh", "base"}, {"x", "x"}, {"a", "q"}, {"c", "x"}, {"", "a"}, {"", ""}, {"a", ""}, {"A", "x"}, {"a", "X"}, {"a.x", ""}, {"", "a.x"}}

// smallLayers returns all layers with entries at up to two spots, in each order.
func smallLayers() []impl.Layer {
	does := []string{"=1", "=", "+2", "-"}
	list := []impl.Layer{{}}
	for _, p := range [][]string{{"x", "a.x"}, {"a.x", "x"}} {
		for _, first := range does {
			list = append(list, lay(p[0]+first))
			for _, second := range does {
				list = append(list, lay(p[0]+first, p[1]+second))
			}
		}
	}
	return list
}

// largeLayers returns n layers of up to 20 entries, the last quarter of them flat.
func largeLayers(n int) []impl.Layer {
	random := rand.New(rand.NewSource(2))
	sections := []string{"", "a", "b", "abcdefgh"}
	keys := []string{"x", "y", "z", "base", "abcdefgh", "q"}
	values := []string{"", "1", "2", "a  b", ",", strings.Repeat("v", 19), strings.Repeat("w", 20), strings.Repeat("u", 40)}
	var list []impl.Layer
	for i := range n {
		l := impl.Layer{}
		few := 3 + random.Intn(len(values)-2)
		for _, at := range random.Perm(len(sections) * len(keys))[:random.Intn(21)] {
			e := impl.Entry{Section: sections[at%len(sections)], Key: keys[at/len(sections)], Op: random.Intn(3), Value: values[random.Intn(few)]}
			if i >= n*3/4 {
				e.Op = impl.OpSet
			}
			if e.Op == impl.OpDrop {
				e.Value = ""
			}
			l.Entries = append(l.Entries, e)
		}
		list = append(list, l)
	}
	return list
}

// someLayers returns all small layers and some large ones.
func someLayers() []impl.Layer {
	return append(smallLayers(), largeLayers(60)...)
}

// flatLayers returns those of someLayers that are flat.
func flatLayers() []impl.Layer {
	return slices.DeleteFunc(someLayers(), func(l impl.Layer) bool {
		return slices.ContainsFunc(l.Entries, func(e impl.Entry) bool { return e.Op != impl.OpSet })
	})
}

// stacks returns stacks of all up to two small layers, some of three, and some of large ones.
func stacks() [][]impl.Layer {
	small, large := smallLayers(), largeLayers(900)
	out := [][]impl.Layer{nil, {}}
	for i, a := range small {
		out = append(out, []impl.Layer{a})
		for j, b := range small {
			out = append(out, []impl.Layer{a, b})
			for k := (i + j) % 5; k < len(small); k += 5 {
				out = append(out, []impl.Layer{a, b, small[k]})
			}
		}
	}
	for n := 1; len(large) >= n; n = n%5 + 1 {
		out = append(out, large[:n:n])
		large = large[n:]
	}
	return out
}

// eachLayer calls check with each of the layers, until one fails.
func eachLayer(t *testing.T, layers []impl.Layer, check func(t *testing.T, l impl.Layer)) {
	t.Helper()
	for _, l := range layers {
		if check(t, l); t.Failed() {
			t.Fatalf("in the layer %+v", l)
		}
	}
}

// eachPair calls check with each two of the layers, until one fails.
func eachPair(t *testing.T, as, bs []impl.Layer, check func(t *testing.T, a, b impl.Layer)) {
	t.Helper()
	for _, a := range as {
		for _, b := range bs {
			if check(t, a, b); t.Failed() {
				t.Fatalf("in the layers %+v and %+v", a, b)
			}
		}
	}
}

// eachStack calls check with each of stacks, until one fails.
func eachStack(t *testing.T, check func(t *testing.T, stack []impl.Layer)) {
	t.Helper()
	for _, stack := range stacks() {
		if check(t, stack); t.Failed() {
			t.Fatalf("in the stack %+v", stack)
		}
	}
}

// checkLayer checks the result of a function that makes a layer, by the entries it has to have.
func checkLayer(t *testing.T, what string, l impl.Layer, ok bool, want []impl.Entry, wantOK bool) {
	t.Helper()
	if ok != wantOK {
		t.Errorf("%s = %+v, %v; want %v", what, l, ok, wantOK)
	} else if !ok && len(l.Entries) != 0 {
		t.Errorf("%s fails with %+v", what, l)
	} else if ok && (!impl.ValidLayer(l) || !slices.Equal(l.Entries, want)) {
		t.Errorf("%s = %+v; want %+v", what, l, want)
	}
}

// checkResolve checks that two stacks have the same value at a spot, or none.
func checkResolve(t *testing.T, what string, have, want []impl.Layer, p spot) {
	t.Helper()
	value, ok := impl.Resolve(have, p.section, p.key)
	if was, had := impl.Resolve(want, p.section, p.key); value != was || ok != had {
		t.Errorf("Resolve(%+v) of %s = %q, %v; want %q, %v", p, what, value, ok, was, had)
	}
}
