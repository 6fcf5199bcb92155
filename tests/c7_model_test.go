package tests

import (
	"math/rand"
	"regexp"
	"slices"
	"strings"
	"testing"

	"loop.example/settinglayers/impl"
)

// placeForm and editForm are the texts of places and of edits.
var (
	placeForm = regexp.MustCompile(`^(?:([a-z]{1,8})\.)?([a-z]{1,8})$`)
	editForm  = regexp.MustCompile(`^((?:[a-z]{1,8}\.)?[a-z]{1,8}) (?:(-)|= ((?:[!-~](?:[ -~]{0,38}[!-~])?)?))$`)
)

// wantPlace returns what ParsePlace has to tell.
func wantPlace(s string) (impl.Ref, bool) {
	m := placeForm.FindStringSubmatch(s)
	if m == nil {
		return impl.Ref{}, false
	}
	return impl.Ref{Section: m[1], Key: m[2]}, true
}

// wantPlaceText returns what PlaceText has to tell.
func wantPlaceText(r impl.Ref) string {
	if !isPlace(r) {
		return ""
	}
	return strings.TrimPrefix(r.Section+"."+r.Key, ".")
}

// wantEdit returns what ParseEdit has to tell.
func wantEdit(s string) (impl.Edit, bool) {
	m := editForm.FindStringSubmatch(s)
	if m == nil {
		return impl.Edit{}, false
	}
	r, _ := wantPlace(m[1])
	return impl.Edit{Section: r.Section, Key: r.Key, Drop: m[2] != "", Value: m[3]}, true
}

// wantEditText returns what EditText has to tell.
func wantEditText(e impl.Edit) string {
	switch where := wantPlaceText(impl.Ref{Section: e.Section, Key: e.Key}); {
	case where == "" || !valueForm.MatchString(e.Value):
		return ""
	case !e.Drop:
		return where + " = " + e.Value
	case e.Value == "":
		return where + " -"
	}
	return ""
}

// edits returns the edits of texts as of EditText, those of other texts without a place.
func edits(told ...string) []impl.Edit {
	var list []impl.Edit
	for _, s := range told {
		e, _ := wantEdit(s)
		list = append(list, e)
	}
	return list
}

// manyEdits returns n edits that turn keys of a section, from the one with the number from.
func manyEdits(section string, from, n int) []impl.Edit {
	var list []impl.Edit
	for _, e := range manyKeys(section, from, n).Entries {
		list = append(list, impl.Edit{Section: e.Section, Key: e.Key, Value: "9"})
	}
	return list
}

// hasAt returns what a layer has at a spot: = and a value, or nothing.
func hasAt(l impl.Layer, p spot) string {
	if e, ok := wantEntry(l, p); ok {
		return "=" + e.Value
	}
	return ""
}

// wantThree returns the entries that Merge3 has to lead to, however many, and what ConflictsOf has to tell.
func wantThree(base, a, b impl.Layer) ([]impl.Entry, []impl.Ref) {
	var entries []impl.Entry
	var conflicts []impl.Ref
	for _, p := range spotsUp(b, a, base) {
		was, mine, other := hasAt(base, p), hasAt(a, p), hasAt(b, p)
		if mine != was && other != was && mine != other {
			conflicts = append(conflicts, spotRef(p))
		}
		if mine == was {
			mine = other
		}
		if mine != "" {
			entries = append(entries, impl.Entry{Section: p.section, Key: p.key, Value: mine[1:]})
		}
	}
	return entries, conflicts
}

// wantCounts returns what CountChanges has to tell.
func wantCounts(a, b impl.Layer) [3]int {
	n := [3]int{}
	for _, p := range spotsUp(a, b) {
		switch was, is := hasAt(a, p), hasAt(b, p); {
		case was == "":
			n[0]++
		case is == "":
			n[1]++
		case was != is:
			n[2]++
		}
	}
	return n
}

// wantEntries returns the entries of the layer of a file.
func wantEntries(rows []row) []impl.Entry {
	var entries []impl.Entry
	for _, s := range wantSections(rows) {
		for _, key := range wantKeys(rows, s) {
			entries = append(entries, impl.Entry{Section: s, Key: key, Value: rows[wantWhere(rows, s, key)].line.Value})
		}
	}
	return entries
}

// wantEdits returns the edits that make a file of these entries mean others.
func wantEdits(have, want []impl.Entry) []impl.Edit {
	patch, _ := wantPatch(have, want)
	var list []impl.Edit
	for _, e := range patch {
		list = append(list, impl.Edit{Section: e.Section, Key: e.Key, Drop: e.Op == impl.OpDrop, Value: e.Value})
	}
	return list
}

// wantApplied returns the text that ApplyEdits has to lead to.
func wantApplied(rows []row, list []impl.Edit) (string, bool) {
	text := textOf(rows)
	for _, e := range list {
		rows, _ := readRows(text)
		next, ok := wantSet(rows, e.Section, e.Key, e.Value)
		if e.Drop {
			next, ok = wantDropKey(rows, e.Section, e.Key)
		}
		if !ok {
			return "", false
		}
		text = next
	}
	return text, true
}

// wantSquashed returns what SquashEdits has to tell.
func wantSquashed(list []impl.Edit) []impl.Edit {
	var left []impl.Edit
	for i, e := range list {
		again := func(x impl.Edit) bool { return x.Section == e.Section && x.Key == e.Key }
		if !slices.ContainsFunc(list[i+1:], again) {
			left = append(left, e)
		}
	}
	return left
}

// wantReverted returns the text that RevertKey has to lead to.
func wantReverted(f, g []row, s, key string) (string, bool) {
	value, has := wantMeaning(g)[[2]string{s, key}]
	_, had := wantMeaning(f)[[2]string{s, key}]
	switch {
	case has:
		return wantSet(f, s, key, value)
	case had:
		return wantDropKey(f, s, key)
	}
	return textOf(f), true
}

// wantMergedFile returns the text that MergeFiles has to lead to.
func wantMergedFile(base, a, b []row) (string, bool) {
	mine := wantEntries(a)
	entries, conflicts := wantThree(impl.Layer{Entries: wantEntries(base)}, impl.Layer{Entries: mine}, impl.Layer{Entries: wantEntries(b)})
	if len(conflicts) > 0 || len(entries) > 20 {
		return "", false
	}
	return wantApplied(a, wantEdits(mine, entries))
}

// smallFlat returns the flat layers with entries at up to two spots, in each order.
func smallFlat() []impl.Layer {
	return slices.DeleteFunc(append(smallLayers(), lay("x=2"), lay("a.x=2"), lay("x=2", "a.x=2"), lay("a.x=2", "x=1")), func(l impl.Layer) bool {
		return slices.ContainsFunc(l.Entries, func(e impl.Entry) bool { return e.Op != impl.OpSet })
	})
}

// turnedLayer returns a flat layer after some changes: entries that are left out, turned, added, or put in another order.
func turnedLayer(random *rand.Rand, l impl.Layer) impl.Layer {
	turned := impl.Layer{Entries: slices.Clone(l.Entries)}
	for range random.Intn(8) {
		e := impl.Entry{Section: baseSections[random.Intn(4)], Key: []string{"x", "y", "z", "base", "abcdefgh"}[random.Intn(5)], Value: []string{"", "1", "2", "a  b"}[random.Intn(4)]}
		at := slices.IndexFunc(turned.Entries, func(x impl.Entry) bool { return spotOf(x) == spotOf(e) })
		switch {
		case at < 0 && len(turned.Entries) < 20:
			turned.Entries = append(turned.Entries, e)
		case at >= 0 && random.Intn(2) == 0:
			turned.Entries = slices.Delete(turned.Entries, at, at+1)
		case at >= 0:
			turned.Entries[at] = e
		}
	}
	if random.Intn(3) == 0 {
		random.Shuffle(len(turned.Entries), func(i, j int) {
			turned.Entries[i], turned.Entries[j] = turned.Entries[j], turned.Entries[i]
		})
	}
	return turned
}

// layerThree is a base, and two layers made of it.
type layerThree struct{ base, a, b impl.Layer }

// layerThrees returns all threes of smallFlat, and some of larger layers that two made of one.
func layerThrees() []layerThree {
	var list []layerThree
	small := smallFlat()
	for _, base := range small {
		for _, a := range small {
			for _, b := range small {
				list = append(list, layerThree{base, a, b})
			}
		}
	}
	random := rand.New(rand.NewSource(8))
	for range 3000 {
		base := impl.Layer{}
		for range random.Intn(5) {
			base = turnedLayer(random, base)
		}
		list = append(list, layerThree{base, turnedLayer(random, base), turnedLayer(random, turnedLayer(random, base))})
	}
	// Those that have little in common have more places than a layer has entries.
	large := flatLayers()
	for i, a := range large {
		for _, b := range large {
			list = append(list, layerThree{large[i*7%len(large)], a, b}, layerThree{a: a, b: b})
		}
	}
	return list
}

// eachThree calls check with each of layerThrees, until one fails.
func eachThree(t *testing.T, check func(t *testing.T, base, a, b impl.Layer)) {
	t.Helper()
	for _, x := range layerThrees() {
		if check(t, x.base, x.a, x.b); t.Failed() {
			t.Fatalf("in the layers %+v and %+v made of %+v", x.a, x.b, x.base)
		}
	}
}

// fewLines are lines that make many files by few of them.
var fewLines = []string{"[a]\n", "x = 1\n", " x=  2 # \n", "y =\n", "  # n\n", "\n", " [b] \n"}

// turnedText returns the text of a file after up to n changes: keys that are set, sections and keys that are dropped, and lines put in.
func turnedText(random *rand.Rand, text string, n int) string {
	for range n {
		rows, _ := readRows(text)
		s, key := someSections[random.Intn(len(someSections))], someKeys[random.Intn(len(someKeys))]
		next, ok := wantSet(rows, s, key, []string{"", "1", "2", "a  b"}[random.Intn(4)])
		switch random.Intn(8) {
		case 0, 1:
			next, ok = wantDropKey(rows, s, key)
		case 2:
			next, ok = wantDropSection(rows, s)
		case 3:
			line := append(fewLines, "# m\n", "    \n")[random.Intn(len(fewLines)+2)]
			next, ok = textOf(slices.Insert(rows, random.Intn(len(rows)+1), row{text: strings.TrimSuffix(line, "\n")})), len(rows) < 20
		}
		if ok {
			text = next
		}
	}
	return text
}

// paddedText returns the text of a file with blank lines at random places, up to n lines in all.
func paddedText(random *rand.Rand, text string, n int) string {
	for rows, _ := readRows(text); len(rows) < n; rows, _ = readRows(text) {
		text = textOf(slices.Insert(rows, random.Intn(len(rows)+1), row{}))
	}
	return text
}

// fileOf is a file, and its rows.
type fileOf struct {
	impl.File
	rows []row
}

// filesOf returns the files of texts.
func filesOf(t *testing.T, texts ...string) []fileOf {
	t.Helper()
	var list []fileOf
	for _, s := range texts {
		list = append(list, fileOf{parse(t, s), rowsOf(t, s)})
	}
	return list
}

// eachFiles calls check with some files, until one fails.
func eachFiles(t *testing.T, files []fileOf, check func(t *testing.T)) {
	t.Helper()
	if check(t); t.Failed() {
		for _, f := range files {
			t.Logf("a file is %q", textOf(f.rows))
		}
		t.FailNow()
	}
}

// eachFilePair calls check with each two files of up to two of fewLines, some longer ones,
// and some up to the limit that were made of one another, until one fails.
func eachFilePair(t *testing.T, check func(t *testing.T, f, g fileOf)) {
	t.Helper()
	try := func(f, g fileOf) {
		t.Helper()
		eachFiles(t, []fileOf{f, g}, func(t *testing.T) { check(t, f, g) })
	}
	small, more := filesOf(t, upTo(2, fewLines)...), filesOf(t, upTo(4, fewLines)...)
	for _, f := range small {
		for _, g := range small {
			try(f, g)
		}
	}
	for i, f := range more {
		try(f, more[i*7%len(more)])
	}
	random := rand.New(rand.NewSource(9))
	for i := range 1500 {
		one := turnedText(random, "", random.Intn(40))
		two := filesOf(t, paddedText(random, one, 5*(i%5)), turnedText(random, one, 1+i%20))
		try(two[0], two[1])
	}
}

// eachFileThree calls check with threes of small files, and with larger ones, two of which were
// made of one, until one fails.
func eachFileThree(t *testing.T, check func(t *testing.T, base, a, b fileOf)) {
	t.Helper()
	try := func(base, a, b fileOf) {
		t.Helper()
		eachFiles(t, []fileOf{base, a, b}, func(t *testing.T) { check(t, base, a, b) })
	}
	small := filesOf(t, "", "\n", "x = 1\n", "# n\nx=1 \n", "x=2\n", "y =\n", "x=1\ny=2\n", "y=2\n\nx = 1\n", "[a]\n", "[a]\nx=1\n", "[a]\nx=2\n# n\n", "x=1\n[a]\nx=1\n", "[a]\ny=\n[b]\nx=1\n[a]\nx=2\n", "x=2\nx=1\n", "[b]\nx=1\n")
	for _, base := range small {
		for _, a := range small {
			for _, b := range small {
				try(base, a, b)
			}
		}
	}
	random := rand.New(rand.NewSource(10))
	for i := range 3000 {
		one := turnedText(random, "", random.Intn(40))
		three := filesOf(t, one, turnedText(random, one, i%6), turnedText(random, one, i%7))
		try(three[0], three[1], three[2])
	}
}

// someEdits returns up to n edits of a file: any, or, if all can be, those that can be applied.
func someEdits(random *rand.Rand, rows []row, n int, can bool) []impl.Edit {
	var list []impl.Edit
	for range n {
		e := impl.Edit{Section: someSections[random.Intn(len(someSections))], Key: someKeys[random.Intn(len(someKeys))], Drop: random.Intn(2) == 0}
		if !e.Drop {
			e.Value = []string{"", "1", "2", "a  b", "-", "= 1"}[random.Intn(6)]
		}
		next, ok := wantApplied(rows, []impl.Edit{e})
		if !can {
			list = append(list, e)
		} else if ok {
			list = append(list, e)
			rows, _ = readRows(next)
		}
	}
	return list
}

// eachEdits calls check with files and edits of them, up to 40, until one fails.
func eachEdits(t *testing.T, check func(t *testing.T, f fileOf, list []impl.Edit)) {
	t.Helper()
	random := rand.New(rand.NewSource(11))
	for i := range 3000 {
		f := filesOf(t, paddedText(random, turnedText(random, "", random.Intn(30)), 5*(i%5)))[0]
		n := random.Intn(8)
		if i%10 == 0 {
			n = 40
		}
		list := someEdits(random, f.rows, n, i%4 > 0)
		if check(t, f, list); t.Failed() {
			t.Fatalf("in the file %q with the edits %+v", textOf(f.rows), list)
		}
	}
}

// badEdits are edits that are not valid, each for one reason.
func badEdits() []impl.Edit {
	var list []impl.Edit
	for _, e := range badEntries() {
		if e.Op == impl.OpSet || e.Op == impl.OpDrop {
			list = append(list, impl.Edit{Section: e.Section, Key: e.Key, Drop: e.Op == impl.OpDrop, Value: e.Value})
		}
		if e.Op == impl.OpSet && e.Value == "" {
			list = append(list, impl.Edit{Section: e.Section, Key: e.Key, Drop: true})
		}
	}
	return list
}

// badFiles are files that are not valid, with keys.
func badFiles(t *testing.T) []impl.File {
	base := parse(t, "[a]\n# n\nx=1\n").Lines
	list := []impl.File{{Lines: append(slices.Clone(base), make([]impl.Line, 18)...)}, {Lines: append(make([]impl.Line, 1000), base...)}}
	for _, l := range badLines() {
		list = append(list, impl.File{Lines: append(slices.Clone(base), l)}, impl.File{Lines: []impl.Line{l}})
	}
	return list
}

// checkEdits checks the result of a function that tells edits.
func checkEdits(t *testing.T, what string, got, want []impl.Edit) {
	t.Helper()
	if !slices.Equal(got, want) {
		t.Errorf("%s = %+v; want %+v", what, got, want)
	}
}
