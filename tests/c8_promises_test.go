package tests

import (
	"math/rand"
	"slices"
	"strings"
	"testing"

	"loop.example/settinglayers/impl"
)

// The tests of this file have the numbers of the document's promises.

func TestP119ArgumentsAreReadBack(t *testing.T) {
	met := map[string]bool{}
	for _, e := range wholeEntries() {
		text := impl.ArgText(e)
		got, ok := impl.ParseArg(text)
		if checkEntry(t, "ParseArg", got, ok, e, true); met[text] || t.Failed() {
			t.Fatalf("of %q, which is ArgText of %+v", text, e)
		}
		met[text] = true
	}
	eachLayer(t, someLayers(), func(t *testing.T, l impl.Layer) {
		for _, e := range l.Entries {
			got, ok := impl.ParseArg(impl.ArgText(e))
			checkEntry(t, "ParseArg of ArgText", got, ok, e, true)
		}
	})
	for _, e := range badEntries() {
		if got, ok := impl.ParseArg(impl.ArgText(e)); ok || got != (impl.Entry{}) {
			t.Errorf("ParseArg of ArgText of %+v = %+v, %v", e, got, ok)
		}
	}
}

func TestP120ArgumentsAreWrittenBack(t *testing.T) {
	good, bad := 0, 0
	for _, s := range argTexts() {
		e, ok := impl.ParseArg(s)
		if !ok {
			bad++
			continue
		}
		if good++; impl.ArgText(e) != s {
			t.Fatalf("ArgText of ParseArg of %q = %q", s, impl.ArgText(e))
		}
	}
	enough(t, "texts are arguments", good, 5000)
	enough(t, "texts are none", bad, 5000)
}

func TestP121LaterArgumentsLieAbove(t *testing.T) {
	random := rand.New(rand.NewSource(18))
	good, bad := 0, 0
	for i := range 4000 {
		places := []int{1, 2, 6, 20}[i%4]
		args := someArgs(random, places, random.Intn(3+places*3/2))
		for at := range len(args) + 1 {
			first, okFirst := impl.ArgLayer(args[:at])
			later, okLater := impl.ArgLayer(args[at:])
			if !okFirst || !okLater {
				continue
			}
			want, can := impl.MergeLayers(later, first)
			all, ok := impl.ArgLayer(args)
			if checkLayer(t, "ArgLayer", all, ok, want.Entries, can); t.Failed() {
				t.Fatalf("of %q, cut at %d", args, at)
			}
			if ok {
				good++
			} else {
				bad++
			}
		}
	}
	enough(t, "arguments are a layer", good, 5000)
	enough(t, "arguments are none together", bad, 500)
}

func TestP122SurroundingsAreReadBack(t *testing.T) {
	met := map[string]bool{}
	for _, e := range wholeEntries() {
		text := impl.EnvText(e)
		got, ok := impl.ParseEnv(text)
		if e.Op != impl.OpSet {
			if text != "" || ok {
				t.Errorf("EnvText of %+v = %q", e, text)
			}
			continue
		}
		if checkEntry(t, "ParseEnv", got, ok, e, true); met[text] || t.Failed() {
			t.Fatalf("of %q, which is EnvText of %+v", text, e)
		}
		met[text] = true
	}
	enough(t, "surroundings", len(met), 500)
	for _, e := range badEntries() {
		if got, ok := impl.ParseEnv(impl.EnvText(e)); ok || got != (impl.Entry{}) {
			t.Errorf("ParseEnv of EnvText of %+v = %+v, %v", e, got, ok)
		}
	}
}

func TestP123SurroundingsAreWrittenBack(t *testing.T) {
	good, bad := 0, 0
	for _, s := range envTexts() {
		e, ok := impl.ParseEnv(s)
		if !ok {
			bad++
			continue
		}
		if good++; impl.EnvText(e) != s || e.Op != impl.OpSet {
			t.Fatalf("EnvText of ParseEnv of %q = %q", s, impl.EnvText(e))
		}
	}
	enough(t, "texts are surroundings", good, 5000)
	enough(t, "texts are none", bad, 5000)
}

func TestP124SurroundingsAreSet(t *testing.T) {
	random := rand.New(rand.NewSource(19))
	good, bad, put := 0, 0, 0
	for i := range 3000 {
		places := []int{1, 4, 12, 20}[i%4]
		list := someEnvs(random, places, random.Intn(places*2))
		if i%8 == 3 {
			list = append(list, manyEnvs("z", 0, 1+random.Intn(21))...)
		}
		last := map[spot]string{}
		for _, s := range list {
			if e, ok := impl.ParseEnv(s); ok {
				last[spotOf(e)] = e.Value
				put++
			}
		}
		l, ok := impl.EnvLayer(list)
		if !ok {
			if bad++; len(last) <= 20 {
				t.Fatalf("EnvLayer(%q) fails", list)
			}
			continue
		}
		if good++; !impl.IsFlat(l) || len(l.Entries) != len(last) {
			t.Fatalf("EnvLayer(%q) = %+v", list, l)
		}
		for _, e := range l.Entries {
			if value, has := last[spotOf(e)]; !has || value != e.Value {
				t.Fatalf("EnvLayer(%q) = %+v", list, l)
			}
		}
	}
	enough(t, "surroundings are a layer", good, 2000)
	enough(t, "surroundings are too many", bad, 50)
	enough(t, "entries are put", put, 5000)
}

func TestP125LayersAreReadBack(t *testing.T) {
	eachLayer(t, append(append(someLayers(), largeLayers(600)...), manyKeys("a", 0, 20)), func(t *testing.T, l impl.Layer) {
		text := impl.LayerText(l)
		if strings.Count(text, "\n") != len(l.Entries) {
			t.Errorf("LayerText = %q", text)
		}
		got, ok := impl.ParseLayer(text)
		checkLayer(t, "ParseLayer of LayerText", got, ok, l.Entries, true)
	})
	for _, l := range badLayers() {
		if got := impl.LayerText(l); got != "" {
			t.Errorf("LayerText(%+v) = %q", l, got)
		}
	}
}

func TestP126LayersAreWrittenBack(t *testing.T) {
	good, bad := 0, 0
	for _, s := range layerTexts() {
		l, ok := impl.ParseLayer(s)
		if !ok {
			bad++
			continue
		}
		if good++; impl.LayerText(l) != s || !impl.ValidLayer(l) {
			t.Fatalf("LayerText of ParseLayer of %q = %q", s, impl.LayerText(l))
		}
	}
	enough(t, "texts are layers", good, 5000)
	enough(t, "texts are none", bad, 5000)
}

func TestP127StacksHaveThreeLayers(t *testing.T) {
	good, bad := 0, 0
	eachDesk(t, func(t *testing.T, c deskCase) {
		args, hasArgs := impl.ArgLayer(c.args)
		env, hasEnv := impl.EnvLayer(c.env)
		f, hasFile := impl.ParseFile(c.file)
		parts := []impl.Layer{args, env, impl.LayerOf(f)}
		_, hasFlat := impl.Flatten(parts)
		stack, ok := impl.StackOf(c.file, c.env, c.args)
		if ok != (hasArgs && hasEnv && hasFile && hasFlat) || !ok && stack != nil || ok && len(stack) != 3 {
			t.Errorf("StackOf = %+v, %v", stack, ok)
			return
		}
		for i, l := range stack {
			checkLayer(t, "a layer of StackOf", l, true, parts[i].Entries, true)
		}
		if ok {
			good++
		} else {
			bad++
		}
	})
	enough(t, "stacks", good, 1000)
	enough(t, "cases have no stack", bad, 300)
}

func TestP128StacksCanBeFiles(t *testing.T) {
	n := 0
	eachDeskStack(t, func(t *testing.T, c deskCase, stack []impl.Layer, flat impl.Layer) {
		f, ok := impl.FileOf(flat)
		if !ok {
			return
		}
		alone, ok := impl.StackOf(impl.FileText(f), nil, nil)
		if !ok || len(alone) != 3 || len(alone[0].Entries)+len(alone[1].Entries) > 0 {
			t.Fatalf("StackOf %q alone = %+v, %v", impl.FileText(f), alone, ok)
		}
		again, ok := impl.Flatten(alone)
		if n += len(flat.Entries); !ok || !sameSet(again.Entries, flat.Entries) {
			t.Errorf("Flatten of the file alone = %+v; want %+v", again, flat)
		}
		for _, p := range spotsUp(stack...) {
			checkResolve(t, "the file alone", alone, stack, p)
		}
	})
	enough(t, "entries", n, 5000)
}

func TestP129EachLineHasAnAnswer(t *testing.T) {
	random := rand.New(rand.NewSource(20))
	eachDesk(t, func(t *testing.T, c deskCase) {
		lines := someLines(random, 20)
		if len(c.args)%3 == 0 {
			lines = append(lines, "list", "what\nlist", "\n\n")[3:]
		}
		all := impl.RunDesk(c.file, c.env, c.args, lines)
		for n := range len(lines) + 1 {
			got := impl.RunDesk(c.file, c.env, c.args, lines[:n])
			if strings.Count(got, "\n") != n || !strings.HasPrefix(all, got) {
				t.Errorf("RunDesk of the first %d of %q = %q; of all %q", n, lines, got, all)
			}
		}
		if got := impl.RunDesk(c.file, c.env, c.args, append(lines, "list")); got != "" {
			t.Errorf("RunDesk of 21 lines = %q", got)
		}
	})
}

func TestP130DesksTellWhatStacksTell(t *testing.T) {
	values, missing := 0, 0
	eachDeskStack(t, func(t *testing.T, c deskCase, stack []impl.Layer, flat impl.Layer) {
		for at := range 20 {
			p := spot{deskSections[at%4], deskKeys[at/4]}
			want := "missing\n"
			if value, ok := impl.Resolve(stack, p.section, p.key); ok {
				want = "is " + value + "\n"
				values++
			} else {
				missing++
			}
			if got := impl.RunDesk(c.file, c.env, c.args, []string{"raw " + wantPlaceText(spotRef(p))}); got != want {
				t.Errorf("RunDesk of raw of %+v = %q; want %q", p, got, want)
			}
		}
	})
	enough(t, "values", values, 5000)
	enough(t, "keys have none", missing, 5000)
}

// argsOf and envsOf return the texts of all entries of a layer.
func argsOf(l impl.Layer) []string {
	var args []string
	for _, e := range l.Entries {
		args = append(args, impl.ArgText(e))
	}
	return args
}

func envsOf(l impl.Layer) []string {
	var list []string
	for _, e := range l.Entries {
		list = append(list, impl.EnvText(e))
	}
	return list
}

func TestP138PatchesAreArguments(t *testing.T) {
	drops, sets := 0, 0
	eachPair(t, flatLayers(), flatLayers(), func(t *testing.T, have, want impl.Layer) {
		patch, ok := impl.PatchLayers(have, want)
		if !ok {
			return
		}
		l, ok := impl.ArgLayer(argsOf(patch))
		checkLayer(t, "ArgLayer of the patch", l, ok, patch.Entries, true)
		for _, e := range patch.Entries {
			if e.Op == impl.OpDrop {
				drops++
			} else {
				sets++
			}
		}
	})
	enough(t, "entries of patches drop", drops, 500)
	enough(t, "entries of patches set", sets, 500)
	// Layers that add are arguments, too.
	eachLayer(t, someLayers(), func(t *testing.T, l impl.Layer) {
		got, ok := impl.ArgLayer(argsOf(l))
		checkLayer(t, "ArgLayer of the layer", got, ok, l.Entries, true)
	})
}

func TestP139FlatLayersAreSurroundings(t *testing.T) {
	n := 0
	eachLayer(t, append(append(flatLayers(), largeLayers(600)[450:]...), manyKeys("a", 0, 20)), func(t *testing.T, l impl.Layer) {
		n += len(l.Entries)
		got, ok := impl.EnvLayer(envsOf(l))
		checkLayer(t, "EnvLayer of the layer", got, ok, l.Entries, true)
	})
	enough(t, "entries", n, 1000)
	// Of a layer that is not flat the other entries have no text, and are passed over.
	eachLayer(t, someLayers(), func(t *testing.T, l impl.Layer) {
		sets := slices.DeleteFunc(slices.Clone(l.Entries), func(e impl.Entry) bool { return e.Op != impl.OpSet })
		got, ok := impl.EnvLayer(envsOf(l))
		checkLayer(t, "EnvLayer of the entries that set", got, ok, sets, true)
	})
}

func TestP140ArgumentsAreEdits(t *testing.T) {
	n := 0
	eachFilePair(t, func(t *testing.T, f, g fileOf) {
		patch, ok := impl.PatchLayers(impl.LayerOf(f.File), impl.LayerOf(g.File))
		if !ok {
			return
		}
		stack, ok := impl.StackOf(impl.FileText(f.File), nil, argsOf(patch))
		if !ok || len(stack) != 3 || !slices.Equal(stack[0].Entries, patch.Entries) {
			t.Fatalf("StackOf with the patch %+v = %+v, %v", patch, stack, ok)
		}
		flat, ok := impl.Flatten(stack)
		if n += len(patch.Entries); !ok || !sameSet(flat.Entries, wantEntries(g.rows)) {
			t.Errorf("Flatten with the patch %+v = %+v", patch, flat)
		}
		if h, ok := impl.FileOf(flat); ok && !impl.SameMeaning(h, g.File) {
			t.Errorf("the file of it is %q", impl.FileText(h))
		}
	})
	enough(t, "arguments", n, 5000)
}
