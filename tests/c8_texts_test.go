package tests

import (
	"math/rand"
	"slices"
	"strings"
	"testing"

	"loop.example/settinglayers/impl"
)

func TestTextsOfArguments(t *testing.T) {
	v40, n8 := strings.Repeat("v", 40), "abcdefgh"
	for told, e := range map[string]impl.Entry{
		"--x=1": {Key: "x", Value: "1"}, "--x=": {Key: "x"}, "--x+=": {Key: "x", Op: impl.OpAdd}, "--x+=1": {Key: "x", Op: impl.OpAdd, Value: "1"}, "--no-x": {Key: "x", Op: impl.OpDrop},
		"--a.x=1": {Section: "a", Key: "x", Value: "1"}, "--a.x+=a  b": {Section: "a", Key: "x", Op: impl.OpAdd, Value: "a  b"}, "--no-a.x": {Section: "a", Key: "x", Op: impl.OpDrop},
		"--no=1": {Key: "no", Value: "1"}, "--no=": {Key: "no"}, "--no+=": {Key: "no", Op: impl.OpAdd}, "--no-no": {Key: "no", Op: impl.OpDrop}, "--no.no=no": {Section: "no", Key: "no", Value: "no"}, "--no-no.no": {Section: "no", Key: "no", Op: impl.OpDrop}, "--no.x+=1": {Section: "no", Key: "x", Op: impl.OpAdd, Value: "1"},
		"--x==": {Key: "x", Value: "="}, "--x==1": {Key: "x", Value: "=1"}, "--x=+=1": {Key: "x", Value: "+=1"}, "--x=+": {Key: "x", Value: "+"}, "--x+=+=1": {Key: "x", Op: impl.OpAdd, Value: "+=1"}, "--x+==": {Key: "x", Op: impl.OpAdd, Value: "="}, "--x=--y": {Key: "x", Value: "--y"}, "--x=--no-x": {Key: "x", Value: "--no-x"}, "--x=a.b=c": {Key: "x", Value: "a.b=c"},
		"--" + n8 + "." + n8 + "=" + v40: {Section: n8, Key: n8, Value: v40}, "--" + n8 + "." + n8 + "+=" + v40: {Section: n8, Key: n8, Op: impl.OpAdd, Value: v40}, "--no-" + n8 + "." + n8: {Section: n8, Key: n8, Op: impl.OpDrop}, "--base=~!#": {Key: "base", Value: "~!#"},
	} {
		if got := impl.ArgText(e); got != told {
			t.Errorf("ArgText(%+v) = %q; want %q", e, got, told)
		}
		got, ok := impl.ParseArg(told)
		checkEntry(t, "ParseArg of "+told, got, ok, e, true)
	}
	for _, s := range noArgs {
		got, ok := impl.ParseArg(s)
		checkEntry(t, "ParseArg of "+s, got, ok, impl.Entry{}, false)
	}
}

func TestTextsOfSurroundings(t *testing.T) {
	v40, n8, big := strings.Repeat("v", 40), "abcdefgh", "ABCDEFGH"
	for told, e := range map[string]impl.Entry{
		"X=1": {Key: "x", Value: "1"}, "X=": {Key: "x"}, "A_X=1": {Section: "a", Key: "x", Value: "1"}, "A_X=": {Section: "a", Key: "x"}, "PATH=/bin:/usr/bin": {Key: "path", Value: "/bin:/usr/bin"}, "LC_ALL=C": {Section: "lc", Key: "all", Value: "C"}, "BASE=a, b": {Key: "base", Value: "a, b"}, "ZZ_BASE=a": {Section: "zz", Key: "base", Value: "a"},
		"X==": {Key: "x", Value: "="}, "X=a=b": {Key: "x", Value: "a=b"}, "X=_": {Key: "x", Value: "_"}, "X=A_B": {Key: "x", Value: "A_B"}, "A_X=a_x=a_x": {Section: "a", Key: "x", Value: "a_x=a_x"}, "X=x  X": {Key: "x", Value: "x  X"}, "X=-": {Key: "x", Value: "-"},
		big + "_" + big + "=" + v40: {Section: n8, Key: n8, Value: v40}, big + "=~": {Key: n8, Value: "~"},
	} {
		if got := impl.EnvText(e); got != told {
			t.Errorf("EnvText(%+v) = %q; want %q", e, got, told)
		}
		got, ok := impl.ParseEnv(told)
		checkEntry(t, "ParseEnv of "+told, got, ok, e, true)
	}
	for _, s := range noEnvs {
		got, ok := impl.ParseEnv(s)
		checkEntry(t, "ParseEnv of "+s, got, ok, impl.Entry{}, false)
	}
	for _, e := range lay("x+1", "x-", "a.x+", "a.x-").Entries {
		if got := impl.EnvText(e); got != "" {
			t.Errorf("EnvText(%+v) = %q", e, got)
		}
	}
}

func TestTextsOfOtherEntries(t *testing.T) {
	for _, e := range badEntries() {
		if arg, env := impl.ArgText(e), impl.EnvText(e); arg != "" || env != "" {
			t.Errorf("of %+v ArgText = %q, EnvText = %q", e, arg, env)
		}
	}
	for _, s := range otherSections() {
		for op := -1; op < 4; op++ {
			for _, e := range []impl.Entry{{Key: s, Op: op}, {Section: s, Op: op}, {Section: s, Key: "x", Op: op}, {Section: "a", Key: s, Op: op}} {
				if arg, env := impl.ArgText(e), impl.EnvText(e); arg != "" || env != "" {
					t.Errorf("of %+v ArgText = %q, EnvText = %q", e, arg, env)
				}
			}
		}
	}
}

func TestTextsOfLayers(t *testing.T) {
	v40, n8 := strings.Repeat("v", 40), "abcdefgh"
	many, list := manyKeys("a", 0, 20), ""
	for _, e := range many.Entries {
		list += "a." + e.Key + " = 1\n"
	}
	for told, l := range map[string]impl.Layer{
		"": {}, "x = 1\n": lay("x=1"), "x = \n": lay("x="), "x -\n": lay("x-"), "x + \n": lay("x+"), "x + 1\n": lay("x+1"), "a.x = 1\n": lay("a.x=1"), "a.x -\n": lay("a.x-"), "a.x + a  b\n": lay("a.x+a  b"),
		"a.x = 1\nk -\nb.z + 2\n": lay("a.x=1", "k-", "b.z+2"), "b.z + 2\nk -\na.x = 1\n": lay("b.z+2", "k-", "a.x=1"), "x = 1\na.x = 1\nx.a = 1\n": lay("x=1", "a.x=1", "x.a=1"), "x = \ny = \n": lay("x=", "y="), "x -\ny -\na.x -\n": lay("x-", "y-", "a.x-"),
		"x = -\n": lay("x=-"), "x = =\n": lay("x=="), "x + +\n": lay("x++"), "x + - 1\n": lay("x+- 1"), "x = = 1\n": lay("x== 1"), "x = x -\n": lay("x=x -"), "x = a.b + c\n": lay("x=a.b + c"), "base = a, b\n": lay("base=a, b"), n8 + "." + n8 + " = " + v40 + "\n": lay(n8 + "." + n8 + "=" + v40), n8 + "." + n8 + " + " + v40 + "\n": lay(n8 + "." + n8 + "+" + v40),
		list: many,
	} {
		if got := impl.LayerText(l); got != told {
			t.Errorf("LayerText(%+v) = %q; want %q", l, got, told)
		}
		got, ok := impl.ParseLayer(told)
		checkLayer(t, "ParseLayer of "+told, got, ok, l.Entries, true)
	}
	for _, l := range badLayers() {
		if got := impl.LayerText(l); got != "" {
			t.Errorf("LayerText(%+v) = %q", l, got)
		}
	}
	for _, s := range []string{
		"\n", " ", "x", "x\n", "x = 1", "x -", "x = 1\ny -", "\nx = 1\n", "x = 1\n\n", "x = 1\n\ny = 1\n", "x = 1\r\n", "x = 1\x00\n", "x = 1\n ", "x = 1\nx = 1\n", "x = 1\nx -\n", "a.x -\nb.x -\na.x + 1\n", "x = 1\nx\n", "x\nx = 1\n", "x = 1\n# n\n", "[a]\nx = 1\n",
		"x ? 1\n", "x=1\n", "x =\n", "x =1\n", "x= 1\n", "x  = 1\n", "x =  1\n", "x = 1 \n", " x = 1\n", "x =  \n", "x +\n", "x +1\n", "x+ 1\n", "x+=1\n", "x += 1\n", "x - \n", "x -1\n", "x - 1\n", "x--\n", "x-\n", "x  -\n", "x \n", "x  \n", "- x\n", "= 1\n", " = 1\n", " -\n", "-\n", "x == 1\n", "x -- 1\n", "x\t= 1\n", "x = \t\n", "x = é\n",
		".x = 1\n", "a. = 1\n", "a.b.c = 1\n", "a:x = 1\n", "X = 1\n", "a.X -\n", "A.x + 1\n", "abcdefghi -\n", "abcdefghi.x = 1\n", "a.abcdefghi + 1\n", "x = " + v40 + "v\n", "x + " + v40 + "v\n", "é -\n", list + "x = 1\n", list + list, list + "x", strings.Repeat("x = 1\n", 100000), strings.Repeat("\n", 100000), strings.Repeat("x", 100000),
	} {
		got, ok := impl.ParseLayer(s)
		if checkLayer(t, "ParseLayer", got, ok, nil, false); t.Failed() {
			t.Fatalf("of %q", s[:min(len(s), 100)])
		}
	}
}

func TestTextsOfAllEntries(t *testing.T) {
	for _, e := range append(wholeEntries(), badEntries()...) {
		if got, want := impl.ArgText(e), wantArgText(e); got != want {
			t.Fatalf("ArgText(%+v) = %q; want %q", e, got, want)
		}
		if got, want := impl.EnvText(e), wantEnvText(e); got != want {
			t.Fatalf("EnvText(%+v) = %q; want %q", e, got, want)
		}
	}
	eachLayer(t, append(someLayers(), largeLayers(600)...), func(t *testing.T, l impl.Layer) {
		if got, want := impl.LayerText(l), wantLayerText(l); got != want {
			t.Errorf("LayerText = %q; want %q", got, want)
		}
	})
}

// argTexts, envTexts and layerTexts are texts of which many are those of entries, and many are not.
func argTexts() []string {
	random := rand.New(rand.NewSource(14))
	list := append(upTo(5, []string{"--", "no", "-", "x", ".", "=", "+"}), upTo(4, []string{"--no-", "--", "a.", "x", "+=", "=", " ", "1", "é", "\n", "abcdefgh"})...)
	var told []string
	for _, e := range wholeEntries() {
		told = append(told, impl.ArgText(e))
	}
	return append(append(list, noArgs...), turnedTexts(random, told, 20000)...)
}

func envTexts() []string {
	random := rand.New(rand.NewSource(15))
	list := append(upTo(5, []string{"A", "_", "X", "=", "x", "1"}), upTo(4, []string{"A_", "ABCDEFGH", "X", "X=", " ", "=", "a", "é", "\n", "\u212a", "\u0130"})...)
	var told []string
	for _, e := range wholeEntries() {
		if e.Op == impl.OpSet {
			told = append(told, impl.EnvText(e))
		}
	}
	return append(append(list, noEnvs...), turnedTexts(random, told, 20000)...)
}

func layerTexts() []string {
	random := rand.New(rand.NewSource(16))
	list := append(upTo(6, []string{"x", " ", "-", "= ", "\n"}), upTo(4, []string{"x = 1\n", "a.x", "x", " + ", " -", " = ", "\n", "1", " ", "-\n"})...)
	var told []string
	for _, l := range someLayers() {
		told = append(told, impl.LayerText(l))
	}
	return append(list, turnedTexts(random, told, 20000)...)
}

func TestParseAllTexts(t *testing.T) {
	good := [3]int{}
	for _, s := range argTexts() {
		e, ok := impl.ParseArg(s)
		want, has := wantArg(s)
		if checkEntry(t, "ParseArg", e, ok, want, has); t.Failed() {
			t.Fatalf("of %q", s)
		} else if ok {
			good[0]++
		}
	}
	for _, s := range envTexts() {
		e, ok := impl.ParseEnv(s)
		want, has := wantEnv(s)
		if checkEntry(t, "ParseEnv", e, ok, want, has); t.Failed() {
			t.Fatalf("of %q", s)
		} else if ok {
			good[1]++
		}
	}
	for _, s := range layerTexts() {
		l, ok := impl.ParseLayer(s)
		want, has := wantLayer(s)
		if checkLayer(t, "ParseLayer", l, ok, want, has); t.Failed() {
			t.Fatalf("of %q", s)
		} else if ok {
			good[2]++
		}
	}
	enough(t, "arguments", good[0], 5000)
	enough(t, "surroundings", good[1], 5000)
	enough(t, "layers", good[2], 5000)
}

func TestLayersOfTextsShareNoMemory(t *testing.T) {
	whole := append(lay("a.x=1", "y-", "z+3").Entries, make([]impl.Entry, 8)...)
	l, before := impl.Layer{Entries: whole[:3]}, slices.Clone(whole)
	for range 2 {
		text := impl.LayerText(l)
		got, ok := impl.ParseLayer(text)
		checkLayer(t, "ParseLayer of "+text, got, ok, l.Entries, true)
		for i := range got.Entries[:cap(got.Entries)] {
			got.Entries[:cap(got.Entries)][i].Value = "changed"
		}
		if !slices.Equal(whole, before) || text != "a.x = 1\ny -\nz + 3\n" {
			t.Errorf("the layer is %+v, its text %q", whole, text)
		}
	}
}
