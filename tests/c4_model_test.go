package tests

import (
	"math/rand"
	"regexp"
	"slices"
	"strings"
	"testing"

	"loop.example/settinglayers/impl"
)

// The texts between commas, and those of them that are names between spaces, as patterns.
var (
	betweenForm = regexp.MustCompile(`[^,]+`)
	baseForm    = regexp.MustCompile(`^ *([a-z]{1,8}) *$`)
)

// wantBases returns what BasesOf has to tell.
func wantBases(l impl.Layer, s string) []string {
	e, _ := wantEntry(l, spot{s, "base"})
	var bases []string
	for _, text := range betweenForm.FindAllString(e.Value, -1) {
		if m := baseForm.FindStringSubmatch(text); m != nil {
			bases = append(bases, m[1])
		}
	}
	return onceEach(bases)
}

// wantInherit returns what InheritOrder has to tell, behind the sections that are there.
// Unlike the program it recurs.
func wantInherit(l impl.Layer, s string, there []string) []string {
	if slices.Contains(there, s) {
		return there
	}
	there = append(there, s)
	for _, b := range wantBases(l, s) {
		there = wantInherit(l, b, there)
	}
	return there
}

// wantCircular returns what IsCircular has to tell. Unlike the program it goes on from all
// bases at once, as often as there can be sections on a way.
func wantCircular(l impl.Layer, s string) bool {
	bases := wantBases(l, s)
	for range l.Entries {
		for _, b := range bases {
			bases = append(bases, wantBases(l, b)...)
		}
		bases = onceEach(bases)
	}
	return slices.Contains(bases, s)
}

// wantSource returns the entry that gives a section a key.
func wantSource(l impl.Layer, s, key string) (impl.Entry, bool) {
	sections := wantInherit(l, s, nil)
	if key == "base" {
		sections = []string{s}
	}
	for _, from := range sections {
		if e, ok := wantEntry(l, spot{from, key}); ok {
			return e, true
		}
	}
	return impl.Entry{}, false
}

// wantInherited returns what KeysInherited has to tell.
func wantInherited(l impl.Layer, s string) []string {
	var keys []string
	for _, from := range wantInherit(l, s, nil) {
		for _, e := range l.Entries {
			if e.Section == from && e.Key != "base" {
				keys = append(keys, e.Key)
			}
		}
	}
	return onceEach(keys)
}

// layerSections returns the sections of a layer, each once.
func layerSections(l impl.Layer) []string {
	var sections []string
	for _, e := range l.Entries {
		sections = append(sections, e.Section)
	}
	return onceEach(sections)
}

// wantFlatSections returns the entries that FlattenSections has to lead to.
func wantFlatSections(l impl.Layer) ([]impl.Entry, bool) {
	var entries []impl.Entry
	for _, s := range layerSections(l) {
		for _, key := range wantInherited(l, s) {
			e, _ := wantSource(l, s, key)
			entries = append(entries, impl.Entry{Section: s, Key: key, Value: wantRetold(e.Section, s, e.Value)})
		}
	}
	return entries, wantValid(entries)
}

// wantHeirs returns what HeirsOf has to tell.
func wantHeirs(l impl.Layer, s string) []string {
	return slices.DeleteFunc(layerSections(l), func(heir string) bool {
		return heir == s || !slices.Contains(wantInherit(l, heir, nil), s)
	})
}

// wantRedundant returns what RedundantIn has to tell.
func wantRedundant(l impl.Layer, s string) []string {
	var keys []string
	for i, e := range l.Entries {
		from, ok := wantSource(without(l, i), s, e.Key)
		if e.Section == s && e.Key != "base" && ok && wantRetold(from.Section, s, from.Value) == e.Value {
			keys = append(keys, e.Key)
		}
	}
	return keys
}

// wantPruned returns the entries that PruneSections has to lead to.
func wantPruned(l impl.Layer) []impl.Entry {
	for i := 0; i < len(l.Entries); {
		if slices.Contains(wantRedundant(l, l.Entries[i].Section), l.Entries[i].Key) {
			l = without(l, i)
		} else {
			i++
		}
	}
	return l.Entries
}

// wantWithBases returns the entries of a layer in which a section has these bases alone.
func wantWithBases(l impl.Layer, s string, bases []string) []impl.Entry {
	e := impl.Entry{Section: s, Key: "base", Value: strings.Join(bases, ",")}
	at := slices.IndexFunc(l.Entries, func(e impl.Entry) bool { return spotOf(e) == spot{s, "base"} })
	switch {
	case at < 0:
		return append(slices.Clone(l.Entries), e)
	case len(bases) == 0:
		return without(l, at).Entries
	}
	entries := slices.Clone(l.Entries)
	entries[at] = e
	return entries
}

// wantAdded returns the entries that AddBase has to lead to.
func wantAdded(l impl.Layer, s, b string) ([]impl.Entry, bool) {
	bases := wantBases(l, s)
	entries := wantWithBases(l, s, append(bases, b))
	return entries, nameForm.MatchString(b) && !slices.Contains(bases, b) && wantValid(entries)
}

// wantDropped returns the entries that DropBase has to lead to.
func wantDropped(l impl.Layer, s, b string) ([]impl.Entry, bool) {
	bases := wantBases(l, s)
	if !slices.Contains(bases, b) {
		return nil, false
	}
	return wantWithBases(l, s, slices.DeleteFunc(bases, func(x string) bool { return x == b })), true
}

// baseSections are the sections that baseLayers have, in the order in which those without circles inherit.
var baseSections = []string{"", "a", "b", "c", "d", "abcdefgh"}

// askedSections are those of baseLayers, and some that none of them has.
var askedSections = append(slices.Clone(baseSections), "q", "x", "base", "A", "a ", ",", "abcdefghi", "a,b")

// smallBaseLayers returns the layers of up to seven entries with a few bases and values each.
func smallBaseLayers() []impl.Layer {
	bases := []string{"-", "=a", "=b", "=b, a", "=c,A,b"}
	values := []string{"-", "=1", "=${b:y}"}
	does := func(l impl.Layer, place, does string) impl.Layer {
		if does == "-" {
			return l
		}
		return both(l, lay(place+does))
	}
	var list []impl.Layer
	for n := range 15 * 15 * 15 {
		l := impl.Layer{}
		for i, s := range []string{"", "a.", "b."} {
			at := n / []int{1, 15, 225}[i] % 15
			l = does(l, s+"base", bases[at%5])
			l = does(l, s+"x", values[at/5])
		}
		if n%2 == 0 {
			slices.Reverse(l.Entries)
		}
		list = append(list, both(l, lay("c.y=${x}", "c.base=a")))
	}
	return list
}

// baseLayerKinds is how many kinds of layers largeBaseLayers makes: with bases of all
// sections or only of those behind the own one, both with few entries and with many.
const baseLayerKinds = 4

// largeBaseLayers returns n layers of up to 20 entries with bases, and with each kind as many.
func largeBaseLayers(n int) []impl.Layer {
	random := rand.New(rand.NewSource(4))
	var list []impl.Layer
	for i := range n {
		l := impl.Layer{}
		few := 1 + i/2%2*9
		for _, at := range random.Perm(36)[:few+random.Intn(11)] {
			own := at % 6
			e := impl.Entry{Section: baseSections[own], Key: []string{"base", "x", "y", "z", "abcdefgh", "q"}[at/6]}
			switch {
			case e.Key != "base":
				e.Value = someValue(random, l, e)
			case i%2 == 0:
				e.Value = someBases(random, baseSections[1:])
			default:
				e.Value = someBases(random, baseSections[own+1:])
			}
			l.Entries = append(l.Entries, e)
		}
		// Bases of a section come into the layer ahead of its keys as often as behind them.
		random.Shuffle(len(l.Entries), func(j, k int) { l.Entries[j], l.Entries[k] = l.Entries[k], l.Entries[j] })
		list = append(list, l)
	}
	return list
}

// someBases returns the value of BaseKey with some of the sections, and some texts that are none.
func someBases(random *rand.Rand, sections []string) string {
	text := ""
	for range 1 + random.Intn(4) {
		part := []string{"", "A", "a-b", "a b", "abcdefghi"}[random.Intn(5)]
		if random.Intn(5) > 0 && len(sections) > 0 {
			part = sections[random.Intn(len(sections))]
		}
		text += part + []string{",", ", ", " ,", "  ,  "}[random.Intn(4)]
	}
	if random.Intn(3) > 0 {
		text = strings.TrimRight(text, ", ")
	}
	text = strings.Trim(text, " ")
	return strings.TrimRight(text[:min(len(text), 40)], " ")
}

// someValue returns a value for an entry: often that of the same key of another section, retold.
func someValue(random *rand.Rand, l impl.Layer, e impl.Entry) string {
	for _, other := range l.Entries {
		if other.Key == e.Key && random.Intn(2) == 0 {
			return wantRetold(other.Section, e.Section, other.Value)
		}
	}
	values := []string{"", "1", "2", "$$", "${x}", "${y}", "${b:y}", "${:x}", "${c:z}1", "a,b", "1", "2"}
	if random.Intn(20) == 0 {
		return []string{"$", "${base}", "${no}", "${a:base}"}[random.Intn(4)]
	}
	return values[random.Intn(len(values))]
}

// baseLayers returns small and large layers with bases.
func baseLayers() []impl.Layer {
	return append(smallBaseLayers(), largeBaseLayers(1600)...)
}

// flatBaseLayers calls check with each of baseLayers of which FlattenSections has an
// outcome, and with this, until one fails.
func flatBaseLayers(t *testing.T, check func(t *testing.T, l, flat impl.Layer)) {
	t.Helper()
	n := 0
	eachLayer(t, baseLayers(), func(t *testing.T, l impl.Layer) {
		if flat, ok := impl.FlattenSections(l); ok {
			n++
			check(t, l, flat)
		}
	})
	if n < 2000 {
		t.Errorf("just %d layers with flat sections", n)
	}
}

// checkTexts checks the result of a function that tells texts.
func checkTexts(t *testing.T, what string, got, want []string) {
	t.Helper()
	if !slices.Equal(got, want) {
		t.Errorf("%s = %q; want %q", what, got, want)
	}
}

// checkFound checks the result of a function that finds a text.
func checkFound(t *testing.T, what, got string, ok bool, want string, wantOK bool) {
	t.Helper()
	if got != want || ok != wantOK {
		t.Errorf("%s = %q, %v; want %q, %v", what, got, ok, want, wantOK)
	}
}
