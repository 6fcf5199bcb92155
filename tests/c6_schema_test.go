package tests

import (
	"math/rand"
	"slices"
	"strings"
	"testing"

	"loop.example/settinglayers/impl"
)

func TestLimitsOfSchemas(t *testing.T) {
	if impl.MaxFields != 8 || impl.MaxOld != 3 {
		t.Error("limits are not those of the document")
	}
	if impl.PbUnknown != 0 || impl.PbOld != 1 || impl.PbKind != 2 || impl.PbBounds != 3 || impl.PbMissing != 4 {
		t.Error("problems are not those of the document")
	}
}

// badSchemas are schemas that are not valid, each for one reason.
func badSchemas() []impl.Schema {
	list := []impl.Schema{
		schemaOf("a text", "b text", "c text", "d text", "e text", "f text", "g text", "h text", "i text"), schemaOf("a.a text", "b.b text", "c text", "d text", "e text", "f text", "g text", "h text", "a.i text"),
		schemaOf("x text", "x text"), schemaOf("a.x int", "y int", "a.x time"), schemaOf("x text;<y", "y text"), schemaOf("y text", "x text;<y"), schemaOf("a.z text", "a.x text;<y", "a.y text"),
		schemaOf("x text;<x"), schemaOf("a.x text;<y;<x"), schemaOf("x text;<y;<y"), schemaOf("x text;<y;<z;<y"), schemaOf("x text;<y", "z text;<y"), schemaOf("a.x text;<o;<y", "b.z text;<y", "a.z text;<y"),
		schemaOf("x text;<a;<b;<c;<d"), schemaOf("base text"), schemaOf("a.base list"), schemaOf("base.base list"), schemaOf("x text;<base"), schemaOf("a.x text;<y;<base"), schemaOf("base.x text;<base"),
		schemaOf("x other"), {Fields: []impl.Field{{Key: "x", Kind: 6}}}, {Fields: []impl.Field{{Key: "x", Kind: 1 << 40}}}, {Fields: []impl.Field{{Key: "x", Kind: -1 << 63}}},
		schemaOf("x text;0..0"), schemaOf("x bool;0..0"), schemaOf("x bool;0..1"), schemaOf("x list;0..0"), schemaOf("x list;1..2"), schemaOf("x text;1..2"), schemaOf("x int;2..1"), schemaOf("x size;1..0"), schemaOf("x time;0..-1"), schemaOf("x int;9223372036854775807..-9223372036854775808"),
		{Fields: []impl.Field{{Key: "x", Kind: impl.TyInt, Low: -1}}}, {Fields: []impl.Field{{Key: "x", Kind: impl.TyInt, High: 1}}}, {Fields: []impl.Field{{Key: "x", Kind: impl.TyText, High: 1}}}, {Fields: []impl.Field{{Key: "x", Kind: impl.TyTime, Low: 1, High: 1}}},
		{Fields: []impl.Field{{Key: "x", Default: "1"}}}, {Fields: []impl.Field{{Key: "x", Kind: impl.TyInt, Default: "1"}}}, {Fields: []impl.Field{{Key: "x", Kind: impl.TyList, Default: " "}}}, {Fields: []impl.Field{{Key: "x", Need: true, Default: "x"}}},
		schemaOf("x bool;="), schemaOf("x int;="), schemaOf("x size;="), schemaOf("x time;="), schemaOf("x bool;=1"), schemaOf("x int;=x"), schemaOf("x int;=01"), schemaOf("x int;=1000000"), schemaOf("x size;=-1"), schemaOf("x size;=10g"), schemaOf("x time;=5"), schemaOf("x time;=10000000s"), schemaOf("x list;=,"), schemaOf("x list;=a,b,c,d,e,f,g,h,i"),
		schemaOf("x text;= x"), schemaOf("x text;=x "), schemaOf("x text;=x\n"), schemaOf("x text;=é"), schemaOf("x text;=" + strings.Repeat("v", 41)), schemaOf("x list;=" + strings.Repeat("v", 41)),
		schemaOf("x int;1..9;=0"), schemaOf("x int;1..9;=10"), schemaOf("x int;1..9;="), schemaOf("x size;1000..2000;=999"), schemaOf("x size;1000..2000;=2001"), schemaOf("x size;1..9;=1k"), schemaOf("x time;60..61;=59s"), schemaOf("x time;60..61;=62s"), schemaOf("x time;60..61;=1h"), schemaOf("x size;-5..-1;=0"), schemaOf("x int;1000000..2000000;=1000000"), schemaOf("x int;5..5;=4"),
		{Fields: slices.Repeat(schemaOf("x text").Fields, 1000)}, {Fields: []impl.Field{{Key: "x", Old: slices.Repeat([]string{"y"}, 1000)}}}, {Fields: make([]impl.Field, 1)}, {Fields: make([]impl.Field, 9)},
	}
	for _, s := range []string{"A", "abcdefghi", " ", "a ", " a", "a.b", "a1", "[a]", "é", "a\n", "\x00", "\xff"} {
		list = append(list, impl.Schema{Fields: []impl.Field{{Section: s, Key: "x"}}}, impl.Schema{Fields: []impl.Field{{Section: "a", Key: s}}}, impl.Schema{Fields: []impl.Field{{Key: "x", Old: []string{"y", s}}}})
	}
	list = append(list, impl.Schema{Fields: []impl.Field{{Section: "a"}}}, impl.Schema{Fields: []impl.Field{{Key: "x", Old: []string{""}}}})
	for _, m := range slices.Clone(list) {
		if len(m.Fields) == 1 {
			// A field that is valid hides none that is not.
			other := schemaOf("abc.other text").Fields
			list = append(list, impl.Schema{Fields: append(slices.Clone(other), m.Fields...)}, impl.Schema{Fields: append(slices.Clone(m.Fields), other...)})
		}
	}
	return list
}

func TestValidSchema(t *testing.T) {
	for _, m := range goodSchemas() {
		if !impl.ValidSchema(m) {
			t.Errorf("ValidSchema(%+v) = false", m)
		}
	}
	for _, m := range badSchemas() {
		if impl.ValidSchema(m) || wantSchema(m) {
			t.Errorf("ValidSchema(%+v) = %v, not %v", m, impl.ValidSchema(m), wantSchema(m))
		}
	}
	eachSchema(t, func(t *testing.T, m impl.Schema) {
		if !impl.ValidSchema(m) || !wantSchema(m) {
			t.Errorf("ValidSchema = %v, not %v", impl.ValidSchema(m), wantSchema(m))
		}
	})
}

// turnedField returns a field that differs from another one of the schema in one thing.
func turnedField(random *rand.Rand, m impl.Schema, f impl.Field) impl.Field {
	other := m.Fields[random.Intn(len(m.Fields))]
	f.Old = slices.Clone(f.Old)
	switch random.Intn(10) {
	case 0:
		f.Section = other.Section
	case 1:
		f.Key = other.Key
	case 2:
		f.Key = append(slices.Clone(other.Old), "new")[0]
	case 3:
		f.Kind += random.Intn(3) - 1
	case 4:
		f.HasDefault = !f.HasDefault
	case 5:
		f.Default = other.Default
	case 6:
		f.Bounded = !f.Bounded
	case 7:
		f.Low += random.Intn(3) - 1
	case 8:
		f.High = someBounds[random.Intn(len(someBounds))]
	case 9:
		f.Old = append(f.Old, append(slices.Clone(other.Old), other.Key, "new")[0])
	}
	return f
}

func TestValidSchemaOfTurnedFields(t *testing.T) {
	random := rand.New(rand.NewSource(8))
	valid, others := 0, 0
	for _, m := range someSchemas() {
		for range 40 {
			if len(m.Fields) == 0 {
				break
			}
			at := random.Intn(len(m.Fields))
			turned := impl.Schema{Fields: slices.Clone(m.Fields)}
			turned.Fields[at] = turnedField(random, m, m.Fields[at])
			want := wantSchema(turned)
			if impl.ValidSchema(turned) != want {
				t.Fatalf("ValidSchema(%+v) = %v", turned, !want)
			}
			if want {
				valid++
			} else {
				others++
			}
		}
	}
	enough(t, "turned schemas are valid", valid, 3000)
	enough(t, "turned schemas are not valid", others, 3000)
}

func TestFieldAtAndNewNameOf(t *testing.T) {
	m := schemaOf("a.port int;<listen;<at", "port text;<listen", "a.wait time", "b.listen bool;<port", "base.x list;<y")
	for told, want := range map[string]int{
		"a.port": 0, "port": 1, "a.wait": 2, "b.listen": 3, "base.x": 4, "a.listen": -1, "listen": -1, "a.at": -1, "b.port": -1, "base.y": -1, "wait": -1, "b.wait": -1, "x": -1, "a.base": -1, "base": -1, "q.port": -1, "a.": -1, "": -1, "A.port": -1, "a.PORT": -1, "a.portx": -1, "a.por": -1, ".port": 1,
	} {
		p := toldSpot(told)
		if got := impl.FieldAt(m, p.section, p.key); got != want {
			t.Errorf("FieldAt %q = %d; want %d", told, got, want)
		}
	}
	for told, want := range map[string]string{
		"a.listen": "port", "a.at": "port", "listen": "port", "b.port": "listen", "base.y": "x", "at": "", "a.port": "", "port": "", "b.listen": "", "b.at": "", "q.listen": "", "a.wait": "", "a.base": "", "a.": "", "": "", "A.at": "", "a.AT": "", "a.a": "", "base.x": "",
	} {
		p := toldSpot(told)
		got, ok := impl.NewNameOf(m, p.section, p.key)
		checkFound(t, "NewNameOf "+told, got, ok, want, want != "")
	}
	if impl.FieldAt(impl.Schema{}, "", "x") != -1 || impl.FieldAt(impl.Schema{}, "", "") != -1 {
		t.Error("a schema of nothing has a field")
	}
	got, ok := impl.NewNameOf(impl.Schema{}, "", "x")
	checkFound(t, "NewNameOf in a schema of nothing", got, ok, "", false)
}

// toldSpot returns the spot told as a key, or as a section, a point and a key.
func toldSpot(told string) spot {
	if section, key, ok := strings.Cut(told, "."); ok {
		return spot{section, key}
	}
	return spot{"", told}
}

// planOf returns the schema of the fields of schemaOf, told with a stroke between two of them.
func planOf(told string) impl.Schema {
	if told == "" {
		return impl.Schema{}
	}
	return schemaOf(strings.Split(told, " | ")...)
}

func TestDefaultsOfFieldsInOrder(t *testing.T) {
	for told, want := range map[string]string{
		"":                                   "",
		"x int":                              "",
		"x int;!":                            "",
		"x int;=5":                           "x=5",
		"x int;!;=5;<o":                      "x=5",
		"b.x time;=60s | a.y int | x text;=": "b.x=60s x=",
		"x size;1..9000;=1k | b.y list;!":    "x=1k",
		"x text;=1 | a.x bool;=on | b.x int;=1 | b.y int;!;1..2;=2 | c.z int;3..4": "x=1 a.x=on b.x=1 b.y=2",
	} {
		got := impl.DefaultsOf(planOf(told))
		checkLayer(t, "DefaultsOf "+told, got, true, lay(strings.Fields(want)...).Entries, true)
	}
	got := impl.DefaultsOf(schemaOf("x list;=a , b", "y text;=a  b"))
	checkLayer(t, "DefaultsOf texts that are not canonical", got, true, lay("x=a , b", "y=a  b").Entries, true)
}

func TestTemplateOfFieldsInOrder(t *testing.T) {
	for told, want := range map[string]string{
		"":                   "",
		"x text":             "# text\nx = \n",
		"x bool;!":           "# bool needed\nx = \n",
		"x int;=5;1..9":      "# int\nx = 5\n",
		"x size;!;=1k;<o":    "# size needed\nx = 1k\n",
		"a.x time;=60s":      "[a]\n# time\nx = 60s\n",
		"a.x list;=a , b":    "[a]\n# list\nx = a , b\n",
		"a.x text;= | y int": "# int\ny = \n[a]\n# text\nx = \n",
		"b.x int | a.x int | b.y int;! | x int | a.y int": "# int\nx = \n[b]\n# int\nx = \n# int needed\ny = \n[a]\n# int\nx = \n# int\ny = \n",
	} {
		f, ok := impl.TemplateOf(planOf(told))
		checkTurned(t, "TemplateOf "+told, f, ok, want, true)
	}
}

func TestTemplateOfUpToTheLimit(t *testing.T) {
	for told, fits := range map[string]bool{
		"a.a int | a.b int | b.a int | b.b int | c.a int | c.b int | d.a int | d.b int": true,
		"a.a int | a.b int | b.a int | b.b int | c.a int | c.b int | d.a int | b int":   true,
		"a.a int | a.b int | b.a int | b.b int | c.a int | c.b int | d.a int | e.b int": false,
		"a.a int | a.b int | b.a int | e.b int | c.a int | c.b int | d.a int | b int":   false,
		"a.a int | a.b int | b.a int | e.b int | c.a int | f.b int | d.a int | b int":   false,
		"a.a int | f.b int | b.a int | e.b int | c.a int | d.a int | b int":             true,
		"a.a int | f.b int | b.a int | e.b int | c.a int | d.a int | g.b int":           false,
		"a.a int | f.b int | b.a int | e.b int | c.a int | d.a int | f.a int":           true,
		"a.a int | f.b int | b.a int | e.b int | c.a int | d.a int":                     true,
		"a.a int | f.b int | b.a int | e.b int | c.a int | d.a int | g.b int | h.a int": false,
	} {
		m := planOf(told)
		want, ok := wantTemplate(m)
		if !impl.ValidSchema(m) || ok != fits {
			t.Errorf("the test itself is wrong about %s", told)
		}
		f, ok := impl.TemplateOf(m)
		checkTurned(t, "TemplateOf "+told, f, ok, want, fits)
	}
}

func TestSchemasAlone(t *testing.T) {
	templates, long := 0, 0
	eachSchema(t, func(t *testing.T, m impl.Schema) {
		for _, p := range append(schemaSpots(m, true), someSpots...) {
			_, want := wantField(m, p)
			if got := impl.FieldAt(m, p.section, p.key); got != want {
				t.Errorf("FieldAt %+v = %d; want %d", p, got, want)
			}
			to := wantRenamed(m, p)
			got, ok := impl.NewNameOf(m, p.section, p.key)
			if to == p {
				to.key = ""
			}
			checkFound(t, "NewNameOf", got, ok, to.key, to.key != "")
		}
		checkLayer(t, "DefaultsOf", impl.DefaultsOf(m), true, wantDefaults(m).Entries, true)
		want, fits := wantTemplate(m)
		f, ok := impl.TemplateOf(m)
		checkTurned(t, "TemplateOf", f, ok, want, fits)
		if fits {
			templates++
		} else {
			long++
		}
	})
	enough(t, "schemas have a template", templates, 400)
	enough(t, "schemas have no template", long, 10)
}

func TestSchemasAloneThatAreNotValid(t *testing.T) {
	for _, m := range badSchemas() {
		for _, f := range m.Fields[:min(3, len(m.Fields))] {
			for _, key := range append([]string{f.Key, "x", "y", "other", ""}, f.Old[:min(4, len(f.Old))]...) {
				if got := impl.FieldAt(m, f.Section, key); got != -1 {
					t.Errorf("FieldAt(%+v, %q, %q) = %d", m, f.Section, key, got)
				}
				got, ok := impl.NewNameOf(m, f.Section, key)
				checkFound(t, "NewNameOf", got, ok, "", false)
			}
		}
		if got := impl.DefaultsOf(m); len(got.Entries) != 0 {
			t.Errorf("DefaultsOf(%+v) = %+v", m, got)
		}
		f, ok := impl.TemplateOf(m)
		checkTurned(t, "TemplateOf", f, ok, "", false)
	}
}
