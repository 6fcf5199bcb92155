package tests

import (
	"math/rand"
	"slices"
	"strconv"
	"strings"
	"testing"

	"loop.example/settinglayers/impl"
)

// kindWords are the names of the kinds, in their order.
var kindWords = []string{"text", "bool", "int", "size", "time", "list"}

// schemaOf returns the schema of fields told as a key, or a section, a point and a key, a space
// and the name of a kind, and then, each behind a semicolon, ! for Need, = and the default,
// < and an old name, or the bounds with two points between them.
func schemaOf(told ...string) impl.Schema {
	m := impl.Schema{}
	for _, s := range told {
		parts := strings.Split(s, ";")
		where, kind, _ := strings.Cut(parts[0], " ")
		f := impl.Field{Key: where, Kind: slices.Index(kindWords, kind)}
		if section, key, ok := strings.Cut(where, "."); ok {
			f.Section, f.Key = section, key
		}
		for _, part := range parts[1:] {
			switch part[0] {
			case '!':
				f.Need = true
			case '=':
				f.HasDefault, f.Default = true, part[1:]
			case '<':
				f.Old = append(f.Old, part[1:])
			default:
				low, high, _ := strings.Cut(part, "..")
				f.Bounded = true
				f.Low, _ = strconv.Atoi(low)
				f.High, _ = strconv.Atoi(high)
			}
		}
		m.Fields = append(m.Fields, f)
	}
	return m
}

func fieldSpot(f impl.Field) spot {
	return spot{f.Section, f.Key}
}

// wantBounded reports whether a value of the kind of a field is in its bounds.
func wantBounded(f impl.Field, x impl.Typed) bool {
	return !f.Bounded || x.Int >= f.Low && x.Int <= f.High
}

// wantSchema reports what ValidSchema has to tell.
func wantSchema(m impl.Schema) bool {
	var names []string
	for _, f := range m.Fields {
		x, read := wantRead(f.Kind, f.Default)
		switch {
		case !isSection(f.Section), f.Kind < 0, f.Kind > 5, len(f.Old) > 3:
			return false
		case !f.HasDefault && f.Default != "", f.HasDefault && (!read || !wantBounded(f, x)):
			return false
		case !f.Bounded && (f.Low != 0 || f.High != 0), f.Bounded && (f.Kind < 2 || f.Kind > 4 || f.Low > f.High):
			return false
		}
		for _, name := range append([]string{f.Key}, f.Old...) {
			if name == "base" || !nameForm.MatchString(name) {
				return false
			}
			names = append(names, f.Section+"."+name)
		}
	}
	return len(m.Fields) <= 8 && len(onceEach(names)) == len(names)
}

// wantField returns the field of a spot, and its index.
func wantField(m impl.Schema, p spot) (impl.Field, int) {
	for i, f := range slices.Backward(m.Fields) {
		if fieldSpot(f) == p {
			return f, i
		}
	}
	return impl.Field{}, -1
}

// wantRenamed returns the spot of the field that has the key of a spot as an old name, or this spot itself.
func wantRenamed(m impl.Schema, p spot) spot {
	for _, f := range m.Fields {
		for _, name := range f.Old {
			if p == (spot{f.Section, name}) {
				return fieldSpot(f)
			}
		}
	}
	return p
}

// wantProblem returns the problem of an entry, -1 if there is none.
func wantProblem(m impl.Schema, e impl.Entry) int {
	f, at := wantField(m, spotOf(e))
	x, read := wantRead(f.Kind, e.Value)
	switch {
	case at < 0 && wantRenamed(m, spotOf(e)) != spotOf(e):
		return impl.PbOld
	case at < 0 && e.Key != "base":
		return impl.PbUnknown
	case at < 0:
		return -1
	case !read:
		return impl.PbKind
	case !wantBounded(f, x):
		return impl.PbBounds
	}
	return -1
}

// wantProblems returns what CheckFlat has to tell.
func wantProblems(m impl.Schema, l impl.Layer) []impl.Problem {
	var problems []impl.Problem
	for _, e := range l.Entries {
		if kind := wantProblem(m, e); kind >= 0 {
			problems = append(problems, impl.Problem{Kind: kind, Section: e.Section, Key: e.Key})
		}
	}
	for _, r := range wantUnused(m, l) {
		if f, _ := wantField(m, spot{r.Section, r.Key}); f.Need && !f.HasDefault {
			problems = append(problems, impl.Problem{Kind: impl.PbMissing, Section: r.Section, Key: r.Key})
		}
	}
	return problems
}

// wantUnused returns what UnusedFields has to tell.
func wantUnused(m impl.Schema, l impl.Layer) []impl.Ref {
	var refs []impl.Ref
	for _, f := range m.Fields {
		if _, ok := wantEntry(l, fieldSpot(f)); !ok {
			refs = append(refs, impl.Ref{Section: f.Section, Key: f.Key})
		}
	}
	return refs
}

// wantDefaults returns the layer that DefaultsOf has to tell.
func wantDefaults(m impl.Schema) impl.Layer {
	l := impl.Layer{}
	for _, f := range m.Fields {
		if f.HasDefault {
			l.Entries = append(l.Entries, impl.Entry{Section: f.Section, Key: f.Key, Value: f.Default})
		}
	}
	return l
}

// wantMigrated returns the entries that Migrate has to lead to.
func wantMigrated(m impl.Schema, l impl.Layer) []impl.Entry {
	var entries []impl.Entry
	for i, e := range l.Entries {
		to := wantRenamed(m, spotOf(e))
		_, there := wantEntry(l, to)
		ahead := slices.ContainsFunc(l.Entries[:i], func(e impl.Entry) bool { return wantRenamed(m, spotOf(e)) == to })
		if to == spotOf(e) || !there && !ahead {
			entries = append(entries, impl.Entry{Section: to.section, Key: to.key, Value: e.Value})
		}
	}
	return entries
}

// wantCanonical returns the entries that CanonFlat has to lead to.
func wantCanonical(m impl.Schema, l impl.Layer) []impl.Entry {
	entries := slices.Clone(l.Entries)
	for i, e := range entries {
		f, at := wantField(m, spotOf(e))
		if x, ok := wantRead(f.Kind, e.Value); at >= 0 && ok {
			entries[i].Value = wantTypedText(x)
		}
	}
	return entries
}

// wantTypedOf returns what TypedOf has to tell.
func wantTypedOf(m impl.Schema, l impl.Layer, p spot) (impl.Typed, bool) {
	f, at := wantField(m, p)
	if at < 0 {
		return impl.Typed{}, false
	}
	e, there := wantEntry(l, p)
	if !there {
		e.Value = f.Default
	}
	x, read := wantRead(f.Kind, e.Value)
	return x, (there || f.HasDefault) && read && wantBounded(f, x)
}

// wantTemplate returns the text of the file that TemplateOf has to lead to.
func wantTemplate(m impl.Schema) (string, bool) {
	var sections, texts []string
	for _, f := range m.Fields {
		at := slices.Index(sections, f.Section)
		if at < 0 {
			at = len(sections)
			sections, texts = append(sections, f.Section), append(texts, "["+f.Section+"]\n")
		}
		texts[at] += "# " + kindWords[f.Kind]
		if f.Need {
			texts[at] += " needed"
		}
		texts[at] += "\n" + f.Key + " = " + f.Default + "\n"
	}
	if at := slices.Index(sections, ""); at >= 0 {
		first := strings.TrimPrefix(texts[at], "[]\n")
		texts = append([]string{first}, slices.Delete(texts, at, at+1)...)
	}
	text := strings.Join(texts, "")
	return text, strings.Count(text, "\n") <= 20
}

// wantNarrow returns the entries that NarrowFlat has to lead to.
func wantNarrow(m impl.Schema, l impl.Layer) []impl.Entry {
	return slices.DeleteFunc(slices.Clone(l.Entries), func(e impl.Entry) bool { return wantProblem(m, e) >= 0 })
}

// wantLess returns the entries that LessDefaults has to lead to.
func wantLess(m impl.Schema, l impl.Layer) []impl.Entry {
	return slices.DeleteFunc(slices.Clone(l.Entries), func(e impl.Entry) bool {
		f, _ := wantField(m, spotOf(e))
		x, read := wantRead(f.Kind, e.Value)
		y, _ := wantRead(f.Kind, f.Default)
		return f.HasDefault && read && sameTyped(x, y)
	})
}

// kindTexts are texts of each kind, some of them of the same value.
var kindTexts = [][]string{
	{"", "x", "yes", "5", "a,b", "1k"},
	{"yes", "on", "true", "no", "off", "false"},
	{"0", "1", "-1", "5", "9", "10", "80", "1000", "999999", "-999999"},
	{"0", "0k", "1", "5", "9", "10", "1000", "1k", "1000k", "1m", "9g", "9000m"},
	{"0s", "0m", "1s", "5s", "9s", "10s", "60s", "1m", "60m", "1h", "3600s", "24h", "1d"},
	{"", "a", "b", "a,b", "a, b", "a ,  b", "b,a", "5"},
}

// someBounds are numbers near those of kindTexts.
var someBounds = []int{-1 << 63, -999999, -2, -1, 0, 1, 4, 5, 6, 9, 10, 59, 60, 1000, 3600, 86400, 1000000, 9000000000, 1<<63 - 1}

// someField returns a field without names, with a default wherever it can have one if it must.
func someField(random *rand.Rand, must bool) impl.Field {
	f := impl.Field{Kind: random.Intn(6), Need: random.Intn(2) == 0}
	if f.Kind >= impl.TyInt && f.Kind <= impl.TyTime && random.Intn(3) > 0 {
		low, high := random.Intn(len(someBounds)), random.Intn(len(someBounds))
		f.Bounded, f.Low, f.High = true, someBounds[min(low, high)], someBounds[max(low, high)]
	}
	if !must && random.Intn(2) == 0 {
		return f
	}
	var texts []string
	for _, text := range kindTexts[f.Kind] {
		if x, _ := wantRead(f.Kind, text); wantBounded(f, x) {
			texts = append(texts, text)
		}
	}
	if len(texts) > 0 {
		f.HasDefault, f.Default = true, texts[random.Intn(len(texts))]
	}
	return f
}

// largeSchemas returns n schemas of up to 8 fields, a third of them with defaults wherever they can have one.
func largeSchemas(n int) []impl.Schema {
	random := rand.New(rand.NewSource(6))
	sections := []string{"", "a", "b", "abcdefgh", "base", "c", "d"}
	var list []impl.Schema
	for i := range n {
		m := impl.Schema{}
		left := map[string][]string{}
		for _, s := range sections {
			left[s] = []string{"x", "y", "z", "o", "p", "q", "w", "abcdefgh", "a", "b", "u", "v"}
			random.Shuffle(len(left[s]), func(j, k int) { left[s][j], left[s][k] = left[s][k], left[s][j] })
		}
		few := 1 + random.Intn(len(sections))
		for range random.Intn(9) {
			f := someField(random, i%3 == 0)
			f.Section = sections[random.Intn(few)]
			names := left[f.Section]
			take := min(1+random.Intn(4), len(names))
			if take == 0 {
				continue
			}
			f.Key, f.Old, left[f.Section] = names[0], slices.Clone(names[1:take]), names[take:]
			m.Fields = append(m.Fields, f)
		}
		list = append(list, m)
	}
	return list
}

// someSchemas returns schemas by hand, and large ones.
func someSchemas() []impl.Schema {
	return append(largeSchemas(600), goodSchemas()...)
}

// goodSchemas are valid ones at the edges of what they may have.
func goodSchemas() []impl.Schema {
	v40 := strings.Repeat("v", 40)
	return []impl.Schema{
		{}, {Fields: []impl.Field{}}, schemaOf("x text"), schemaOf("abcdefgh.abcdefgh list;!;<abcdefga;<abcdefgb;<abcdefgc"), schemaOf("base.x text;<y"),
		schemaOf("x int", "a.x int", "b.x text", "x.a bool", "a.a time"), schemaOf("x int;<o", "a.x int;<o", "b.o list"), schemaOf("a.x int;<y", "b.y int;<x"), schemaOf("x int;<y;<z;<w"),
		schemaOf("a int", "b text", "c bool", "d size", "e time", "f list", "g int", "h text"), schemaOf("a.a int;<b;<c;<d", "a.e int;<f;<g;<h", "a.i int;<j;<k;<l", "a.m int;<n;<o;<p", "a.q int;<r;<s;<t", "a.u int;<v;<w;<x", "a.y int;<z;<aa;<ab", "a.ac int;<ad;<ae;<af"),
		schemaOf("x int;5..5", "y int;5..5;=5", "z size;0..0;=0k", "w time;60..60;=1m"), schemaOf("x int;1..9;=1", "y int;1..9;=9", "z size;1000..2000;=1k", "w size;1000..2000;=2000", "v time;60..61;=60s", "u time;60..61;=1m1s"),
		schemaOf("x int;-9223372036854775808..9223372036854775807;=0", "y size;-5..-1", "z time;-5..0;=0s", "w int;1000000..2000000", "v int;-999999..-999999;=-999999", "u size;9000000000..9000000000;=9g", "t time;9999999..9999999;=9999999s"),
		schemaOf("x text;=", "y list;=", "z text;="+v40, "w list;=a , b", "v bool;!;=off", "u text;!", "t list;="+v40[:19]+","+v40[:20], "s time;=0d60s"),
		{Fields: []impl.Field{{Key: "x", Old: []string{}}, {Key: "y", Kind: impl.TyBool, HasDefault: true, Default: "yes", Old: []string{"o"}}}},
	}
}

// valueFor returns a value for a spot: mostly one of the kind of its field, sometimes the default.
func valueFor(random *rand.Rand, m impl.Schema, p spot, right bool) string {
	f, _ := wantField(m, wantRenamed(m, p))
	texts := kindTexts[f.Kind]
	switch n := random.Intn(8); {
	case f.HasDefault && n < 2:
		return f.Default
	case !right && n == 2:
		return []string{"soon", "?", "", "07", ",", "a,,b", "yes", "5", "1000000", strings.Repeat("v", 40)}[random.Intn(10)]
	}
	text := texts[random.Intn(len(texts))]
	if x, _ := wantRead(f.Kind, text); right && !wantBounded(f, x) {
		return f.Default
	}
	return text
}

// schemaSpots returns the spots that layers of a schema have: those of fields, and, if all, those of old names and of no field.
func schemaSpots(m impl.Schema, all bool) []spot {
	var spots []spot
	for _, f := range m.Fields {
		spots = append(spots, fieldSpot(f))
		for _, name := range f.Old {
			if all {
				spots = append(spots, spot{f.Section, name})
			}
		}
	}
	if !all {
		return spots
	}
	for _, p := range []spot{{"", "base"}, {"a", "base"}, {"q", "base"}, {"a", "no"}, {"", "no"}, {"q", "x"}, {"", "x"}, {"a", "x"}, {"b", "o"}, {"a", "o"}} {
		if !slices.Contains(spots, p) {
			spots = append(spots, p)
		}
	}
	return spots
}

// schemaLayerKinds is how many kinds of layers schemaLayers makes: of fields with right values,
// of fields with any values, of all spots, and of as many spots as there can be.
const schemaLayerKinds = 4

// schemaLayers returns n flat layers for a schema, with each kind as many.
func schemaLayers(random *rand.Rand, m impl.Schema, n int) []impl.Layer {
	list := []impl.Layer{{}}
	for i := range n {
		kind := i % schemaLayerKinds
		spots := schemaSpots(m, kind >= 2)
		random.Shuffle(len(spots), func(j, k int) { spots[j], spots[k] = spots[k], spots[j] })
		many := min(20, len(spots))
		if kind < 3 {
			many = random.Intn(many + 1)
		}
		l := impl.Layer{}
		for _, p := range spots[:many] {
			l.Entries = append(l.Entries, impl.Entry{Section: p.section, Key: p.key, Value: valueFor(random, m, p, kind == 0)})
		}
		list = append(list, l)
	}
	return list
}

// smallSchema is the one of smallSchemaLayers.
var smallSchema = schemaOf("a.x int;=5;1..9;<o;<p", "x time;!")

// smallSchemaLayers returns the layers of up to four entries with few values of smallSchema, in both orders.
func smallSchemaLayers() []impl.Layer {
	list := []impl.Layer{{}}
	for _, does := range [][]string{{"a.x=5", "a.x=0", "a.x=10", "a.x=z", "a.x=9"}, {"a.o=5", "a.o=7"}, {"a.p=9", "a.p=?"}, {"x=60s", "x=1m", "x=soon"}, {"a.no=1", "a.base=b"}} {
		for _, l := range slices.Clone(list) {
			for _, told := range does {
				list = append(list, both(l, lay(told)))
			}
		}
	}
	for _, l := range slices.Clone(list) {
		back := slices.Clone(l.Entries)
		slices.Reverse(back)
		list = append(list, impl.Layer{Entries: back})
	}
	return list
}

// eachSchema calls check with each of someSchemas, until one fails.
func eachSchema(t *testing.T, check func(t *testing.T, m impl.Schema)) {
	t.Helper()
	for _, m := range someSchemas() {
		if check(t, m); t.Failed() {
			t.Fatalf("in the schema %+v", m)
		}
	}
}

// eachSchemaLayer calls check with smallSchema and each of its layers, and with each of
// someSchemas and some layers for it, until one fails.
func eachSchemaLayer(t *testing.T, check func(t *testing.T, m impl.Schema, l impl.Layer)) {
	t.Helper()
	random := rand.New(rand.NewSource(7))
	eachLayer(t, smallSchemaLayers(), func(t *testing.T, l impl.Layer) { check(t, smallSchema, l) })
	eachSchema(t, func(t *testing.T, m impl.Schema) {
		eachLayer(t, schemaLayers(random, m, 3*schemaLayerKinds), func(t *testing.T, l impl.Layer) { check(t, m, l) })
	})
}

// checkProblems checks the result of CheckFlat.
func checkProblems(t *testing.T, what string, got, want []impl.Problem) {
	t.Helper()
	if !slices.Equal(got, want) {
		t.Errorf("%s = %+v; want %+v", what, got, want)
	}
}
