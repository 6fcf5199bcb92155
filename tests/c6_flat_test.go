package tests

import (
	"fmt"
	"slices"
	"strings"
	"testing"

	"loop.example/settinglayers/impl"
)

// server is a schema with fields of most kinds, with old names, bounds and defaults.
var server = schemaOf("a.port int;=80;1..9999;<listen;<at", "a.wait time;=1m", "name text;!;<title", "a.room size;1000..9000000000;!;=1k", "b.on bool", "users list;!;<people")

// toldProblems returns the problems told each as its kind, a colon, and a spot (toldSpot).
func toldProblems(told string) []impl.Problem {
	var problems []impl.Problem
	for _, s := range strings.Fields(told) {
		kind, where, _ := strings.Cut(s, ":")
		p := toldSpot(where)
		problems = append(problems, impl.Problem{Kind: slices.Index([]string{"unknown", "old", "kind", "bounds", "missing"}, kind), Section: p.section, Key: p.key})
	}
	return problems
}

func TestCheckFlatInOrder(t *testing.T) {
	for told, want := range map[string]string{
		"":                            "missing:name missing:users",
		"name= users=":                "",
		"users=x name=y":              "",
		"name= title= users=":         "old:title",
		"title=x users=":              "old:title missing:name",
		"title=x people=y":            "old:title old:people missing:name missing:users",
		"name= users= x=1":            "unknown:x",
		"name= users= b.name=1":       "unknown:b.name",
		"name= users= port=80":        "unknown:port",
		"name= users= listen=80":      "unknown:listen",
		"name= users= q.base=80":      "",
		"base=? name= users=":         "",
		"name= users= a.base=,,":      "",
		"name= users= a.bas=":         "unknown:a.bas",
		"name= users= a.port=1":       "",
		"name= users= a.port=0":       "bounds:a.port",
		"name= users= a.port=-1":      "bounds:a.port",
		"name= a.port=9999 users=":    "",
		"name= a.port=10000 users=":   "bounds:a.port",
		"name= a.port=1000000 users=": "kind:a.port",
		"name= a.port= users=":        "kind:a.port",
		"name= a.port=1k users=":      "kind:a.port",
		"name= a.room=999 users=":     "bounds:a.room",
		"name= a.room=1000 users=":    "",
		"name= a.room=0k users=":      "bounds:a.room",
		"name= a.room=9g users=":      "",
		"name= a.room=10g users=":     "kind:a.room",
		"name= a.wait=60 users=":      "kind:a.wait",
		"name= a.wait=0s users=":      "",
		"name= b.on=1 users=":         "kind:b.on",
		"name= b.on=off users=":       "",
		"name= users=a,,b":            "kind:users",
		"users=, a.wait= a.listen=x b.on= z= a.port=0 a.at= name=": "kind:users kind:a.wait old:a.listen kind:b.on unknown:z bounds:a.port old:a.at",
		"a.at=1 a.port=0 people=1":                                 "old:a.at bounds:a.port old:people missing:name missing:users",
		"a.listen=0 a.at=? a.base=1 b.base=2 base=3":               "old:a.listen old:a.at missing:name missing:users",
	} {
		l := lay(strings.Fields(told)...)
		checkProblems(t, "CheckFlat of "+told, impl.CheckFlat(server, l), toldProblems(want))
		if clean := impl.IsClean(server, l); clean != (want == "") {
			t.Errorf("IsClean of %s = %v", told, clean)
		}
	}
}

func TestCheckFlatWithSchemas(t *testing.T) {
	for _, c := range [][3]string{
		{"", "", ""}, {"", "base=1 a.base=2", ""}, {"", "x=1 a.x=2", "unknown:x unknown:a.x"},
		{"x text;!", "", "missing:x"}, {"x text;!;=", "", ""}, {"x text", "", ""}, {"x text;!;=", "x=1", ""}, {"b.x int;! | x int | a.x int;! | a.y int;!;=1", "", "missing:b.x missing:a.x"},
		{"x size;-5..-1;!", "x=0", "bounds:x"}, {"x size;-5..-1;!", "", "missing:x"}, {"x int;-9..-1", "x=-9", ""}, {"x int;-9..-1", "x=-10", "bounds:x"}, {"x int;-9..-1", "x=0", "bounds:x"},
		{"x time;60..61", "x=1m", ""}, {"x time;60..61", "x=1m1s", ""}, {"x time;60..61", "x=1m2s", "bounds:x"}, {"x time;60..61", "x=59s", "bounds:x"}, {"x int;-9223372036854775808..9223372036854775807", "x=999999", ""},
		{"x int;0..0", "x=0", ""}, {"x int;0..0", "x=1", "bounds:x"}, {"x int;0..0", "x=-1", "bounds:x"}, {"x int", "x=-999999", ""},
		{"a.x int;<y | b.y int;<x", "a.y=1 a.x=? b.x=? b.y=2 x=1 y=2", "old:a.y kind:a.x old:b.x unknown:x unknown:y"},
	} {
		checkProblems(t, "CheckFlat of "+c[1]+" with "+c[0], impl.CheckFlat(planOf(c[0]), lay(strings.Fields(c[1])...)), toldProblems(c[2]))
	}
}

func TestWithDefaultsInOrder(t *testing.T) {
	for told, want := range map[string]string{
		"":                            "a.port=80 a.wait=1m a.room=1k",
		"a.room=5k name=me a.wait=2m": "a.port=80 a.wait=2m a.room=5k name=me",
		"a.port=?":                    "a.port=? a.wait=1m a.room=1k",
		"a.wait=60s x=1 a.listen=5":   "a.port=80 a.wait=60s a.room=1k x=1 a.listen=5",
		"wait=5s b.port=1":            "a.port=80 a.wait=1m a.room=1k wait=5s b.port=1",
		"a.base=b":                    "a.port=80 a.wait=1m a.room=1k a.base=b",
	} {
		got, ok := impl.WithDefaults(server, lay(strings.Fields(told)...))
		checkLayer(t, "WithDefaults of "+told, got, ok, lay(strings.Fields(want)...).Entries, true)
	}
	got, ok := impl.WithDefaults(impl.Schema{}, lay("x=1"))
	checkLayer(t, "WithDefaults of a schema of nothing", got, ok, lay("x=1").Entries, true)
	got, ok = impl.WithDefaults(impl.Schema{}, impl.Layer{})
	checkLayer(t, "WithDefaults of nothing", got, ok, nil, true)
}

func TestWithDefaultsUpToTheLimit(t *testing.T) {
	got, ok := impl.WithDefaults(server, manyKeys("b", 0, 17))
	checkLayer(t, "WithDefaults up to 20 entries", got, ok, both(lay("a.port=80", "a.wait=1m", "a.room=1k"), manyKeys("b", 0, 17)).Entries, true)
	got, ok = impl.WithDefaults(server, manyKeys("b", 0, 18))
	checkLayer(t, "WithDefaults of one entry more", got, ok, nil, false)
	got, ok = impl.WithDefaults(server, both(manyKeys("b", 0, 17), lay("a.room=2k", "a.port=1", "a.wait=0s")))
	checkLayer(t, "WithDefaults of 20 entries", got, ok, both(lay("a.port=1", "a.wait=0s", "a.room=2k"), manyKeys("b", 0, 17)).Entries, true)
	got, ok = impl.WithDefaults(server, both(manyKeys("b", 0, 18), lay("a.room=2k", "a.port=1")))
	checkLayer(t, "WithDefaults of 20 entries without one", got, ok, nil, false)
	got, ok = impl.WithDefaults(schemaOf("x text", "y int;!"), manyKeys("b", 0, 20))
	checkLayer(t, "WithDefaults without defaults", got, ok, manyKeys("b", 0, 20).Entries, true)
}

func TestMigrateInOrder(t *testing.T) {
	for told, want := range map[string]string{
		"":                              "",
		"a.port=1":                      "a.port=1",
		"a.listen=1":                    "a.port=1",
		"a.at=?":                        "a.port=?",
		"a.listen=1 a.port=2":           "a.port=2",
		"a.port=2 a.listen=1":           "a.port=2",
		"a.listen=1 a.at=2":             "a.port=1",
		"a.at=2 a.listen=1":             "a.port=2",
		"a.at=2 a.listen=1 a.port=3":    "a.port=3",
		"x=1 a.at=2 y=3 a.listen=1 z=4": "x=1 a.port=2 y=3 z=4",
		"listen=1 b.listen=2 b.at=3":    "listen=1 b.listen=2 b.at=3",
		"title=me people=x a.base=b":    "name=me users=x a.base=b",
		"people=x name=y title=z":       "users=x name=y",
		"a.name=1 a.title=2 title=3":    "a.name=1 a.title=2 name=3",
		"a.at=1 port=2 b.port=3":        "a.port=1 port=2 b.port=3",
		"a.at=${listen} a.x=${at}":      "a.port=${listen} a.x=${at}",
	} {
		got := impl.Migrate(server, lay(strings.Fields(told)...))
		checkLayer(t, "Migrate of "+told, got, true, lay(strings.Fields(want)...).Entries, true)
	}
	swapped := schemaOf("a.x int;<y", "b.y int;<x", "x text;<o", "y text;<p")
	got := impl.Migrate(swapped, lay("a.y=1", "b.x=2", "p=3", "o=4", "y=5"))
	checkLayer(t, "Migrate of names that are new elsewhere", got, true, lay("a.x=1", "b.y=2", "x=4", "y=5").Entries, true)
	got = impl.Migrate(schemaOf("a.ka text;<kb;<kc;<kd"), manyKeys("a", 1, 20))
	checkLayer(t, "Migrate of 20 entries", got, true, append(lay("a.ka=1").Entries, manyKeys("a", 4, 17).Entries...), true)
	got = impl.Migrate(impl.Schema{}, lay("x=1", "a.y=2"))
	checkLayer(t, "Migrate with a schema of nothing", got, true, lay("x=1", "a.y=2").Entries, true)
}

func TestCanonFlatInOrder(t *testing.T) {
	for told, want := range map[string]string{
		"":                          "",
		"a.wait=60s":                "a.wait=1m",
		"a.wait=60":                 "a.wait=60",
		"a.wait=0d0h":               "a.wait=0s",
		"a.room=9000m a.port=7":     "a.room=9g a.port=7",
		"a.room=0k":                 "a.room=0",
		"a.room=1000 b.on=on":       "a.room=1k b.on=yes",
		"b.on=false b.off=off":      "b.on=no b.off=off",
		"users=b,a wait=60s x=1000": "users=b,a wait=60s x=1000",
		"title=a b.wait=60s":        "title=a b.wait=60s",
		"a.listen=07 a.port=07":     "a.listen=07 a.port=07",
		"a.base=b, c=1":             "a.base=b, c=1",
	} {
		got := impl.CanonFlat(server, lay(strings.Fields(told)...))
		checkLayer(t, "CanonFlat of "+told, got, true, lay(strings.Fields(want)...).Entries, true)
	}
	got := impl.CanonFlat(server, lay("users=a ,  b , c", "people=a , b", "name=a , b", "a.base=a , b"))
	checkLayer(t, "CanonFlat of lists", got, true, lay("users=a,b,c", "people=a , b", "name=a , b", "a.base=a , b").Entries, true)
}

func TestTypedOfFields(t *testing.T) {
	l := lay("a.port=8080", "b.on=on", "title=me", "users=a , b", "a.base=b", "x=1", "a.at=5")
	for told, want := range map[string]impl.Typed{
		"a.port": typedNumber(impl.TyInt, 8080), "b.on": typedNumber(impl.TyBool, 1), "users": typedList("a", "b"), "a.wait": typedNumber(impl.TyTime, 60), "a.room": typedNumber(impl.TySize, 1000),
	} {
		p := toldSpot(told)
		got, ok := impl.TypedOf(server, l, p.section, p.key)
		checkTyped(t, "TypedOf "+told, got, ok, want, true)
	}
	for _, told := range []string{"name", "title", "a.at", "a.listen", "a.base", "x", "port", "b.port", "people", "", "a.", "A.port", "q.q"} {
		p := toldSpot(told)
		got, ok := impl.TypedOf(server, l, p.section, p.key)
		checkTyped(t, "TypedOf "+told, got, ok, impl.Typed{}, false)
	}
	// What is wrong is not the default instead.
	for told, want := range map[string]bool{
		"a.port=0": false, "a.port=1": true, "a.port=9999": true, "a.port=10000": false, "a.port=": false, "a.port=?": false, "a.wait=": false, "a.wait=60": false, "a.wait=0s": true, "a.room=999": false, "a.room=1000": true, "a.room=9g": true, "a.room=10g": false,
		"name=": true, "name=?": true, "users=": true, "users=,": false, "b.on=": false, "b.on=no": true,
	} {
		l := lay(told)
		p := spotOf(l.Entries[0])
		x, read := wantTypedOf(server, l, p)
		if read != want {
			t.Errorf("the test itself is wrong about %s", told)
		}
		got, ok := impl.TypedOf(server, l, p.section, p.key)
		checkTyped(t, "TypedOf in "+told, got, ok, x, want)
	}
	for told, want := range map[string]impl.Typed{"x text;=": {}, "x list;=": typedList(), "x text;!;=a b": {Text: "a b"}, "x list;=a , b": typedList("a", "b"), "x int;5..5;=5": typedNumber(impl.TyInt, 5), "x size;=2000k": typedNumber(impl.TySize, 2000000), "x bool;=off": typedNumber(impl.TyBool, 0)} {
		got, ok := impl.TypedOf(schemaOf(told), impl.Layer{}, "", "x")
		checkTyped(t, "TypedOf the default of "+told, got, ok, want, true)
	}
	for _, told := range []string{"x text", "x list;!", "x int", "x bool", "x time;0..0", "x size"} {
		got, ok := impl.TypedOf(schemaOf(told), impl.Layer{}, "", "x")
		checkTyped(t, "TypedOf no default of "+told, got, ok, impl.Typed{}, false)
	}
}

func TestUnusedFieldsInOrder(t *testing.T) {
	for told, want := range map[string]string{
		"":                                "a.port a.wait name a.room b.on users",
		"b.on=? a.wait=":                  "a.port name a.room users",
		"a.listen=1 title= people=":       "a.port a.wait name a.room b.on users",
		"port=1 b.wait=1 a.name= a.base=": "a.port a.wait name a.room b.on users",
		"users= name= a.room= b.on= a.wait= a.port=": "",
		"x= a.room=1k": "a.port a.wait name b.on users",
	} {
		var refs []impl.Ref
		for _, s := range strings.Fields(want) {
			p := toldSpot(s)
			refs = append(refs, impl.Ref{Section: p.section, Key: p.key})
		}
		checkRefs(t, "UnusedFields of "+told, impl.UnusedFields(server, lay(strings.Fields(told)...)), refs)
	}
	checkRefs(t, "UnusedFields of a schema of nothing", impl.UnusedFields(impl.Schema{}, lay("x=1")), nil)
}

func TestNarrowFlatInOrder(t *testing.T) {
	for told, want := range map[string]string{
		"":                                     "",
		"x=1 a.base=b base=":                   "a.base=b base=",
		"a.port=0 a.wait=60s a.listen=5 name=": "a.wait=60s name=",
		"users=, b.on=yes title=x b.no=1 a.port=1": "b.on=yes a.port=1",
		"a.room=999 a.port=9999":                   "a.port=9999",
		"name=x a.room=9g users=y":                 "name=x a.room=9g users=y",
		"people= a.at=1 b.x= q.port=80":            "",
	} {
		got := impl.NarrowFlat(server, lay(strings.Fields(told)...))
		checkLayer(t, "NarrowFlat of "+told, got, true, lay(strings.Fields(want)...).Entries, true)
	}
	got := impl.NarrowFlat(impl.Schema{}, lay("x=1", "a.base=b"))
	checkLayer(t, "NarrowFlat with a schema of nothing", got, true, lay("a.base=b").Entries, true)
}

func TestLessDefaultsInOrder(t *testing.T) {
	for told, want := range map[string]string{
		"":                            "",
		"a.port=80":                   "",
		"a.port=81":                   "a.port=81",
		"a.port=?":                    "a.port=?",
		"a.port=080":                  "a.port=080",
		"a.wait=60s a.room=1000":      "",
		"a.wait=61s a.room=1001":      "a.wait=61s a.room=1001",
		"x=1 a.wait=0h1m name=":       "x=1 name=",
		"port=80 b.wait=1m a.at=80":   "port=80 b.wait=1m a.at=80",
		"a.base=b users= b.on=no":     "a.base=b users= b.on=no",
		"a.room=1k b.on=yes a.port=0": "b.on=yes a.port=0",
	} {
		got := impl.LessDefaults(server, lay(strings.Fields(told)...))
		checkLayer(t, "LessDefaults of "+told, got, true, lay(strings.Fields(want)...).Entries, true)
	}
	m := schemaOf("x text;=", "y list;=a,b", "z text;=1k", "w bool;=on", "v text", "u list")
	got := impl.LessDefaults(m, lay("x=", "y=a , b", "z=1000", "w=yes", "v=", "u="))
	checkLayer(t, "LessDefaults of values by kinds", got, true, lay("z=1000", "v=", "u=").Entries, true)
	got = impl.LessDefaults(m, lay("x=x", "y=b,a", "z=1k", "w=no", "v=1"))
	checkLayer(t, "LessDefaults of other values", got, true, lay("x=x", "y=b,a", "w=no", "v=1").Entries, true)
}

func TestFlatLayersWithSchemas(t *testing.T) {
	long := 0
	eachSchemaLayer(t, func(t *testing.T, m impl.Schema, l impl.Layer) {
		problems := wantProblems(m, l)
		checkProblems(t, "CheckFlat", impl.CheckFlat(m, l), problems)
		if clean := impl.IsClean(m, l); clean != (len(problems) == 0) {
			t.Errorf("IsClean = %v", clean)
		}
		more, ok := impl.WithDefaults(m, l)
		want, fits := wantMerged(l, wantDefaults(m))
		if checkLayer(t, "WithDefaults", more, ok, want, fits); !ok {
			long++
		}
		checkLayer(t, "Migrate", impl.Migrate(m, l), true, wantMigrated(m, l), true)
		checkLayer(t, "CanonFlat", impl.CanonFlat(m, l), true, wantCanonical(m, l), true)
		for _, p := range schemaSpots(m, true) {
			x, read := wantTypedOf(m, l, p)
			got, ok := impl.TypedOf(m, l, p.section, p.key)
			checkTyped(t, "TypedOf", got, ok, x, read)
		}
		checkRefs(t, "UnusedFields", impl.UnusedFields(m, l), wantUnused(m, l))
		checkLayer(t, "NarrowFlat", impl.NarrowFlat(m, l), true, wantNarrow(m, l), true)
		checkLayer(t, "LessDefaults", impl.LessDefaults(m, l), true, wantLess(m, l), true)
	})
	enough(t, "layers have too many entries with defaults", long, 20)
}

// checkOtherSchema checks that each function of a schema and a layer has its fixed result if one of them is not as it must be.
func checkOtherSchema(t *testing.T, m impl.Schema, l impl.Layer) {
	t.Helper()
	checkProblems(t, "CheckFlat", impl.CheckFlat(m, l), nil)
	if impl.IsClean(m, l) {
		t.Error("IsClean = true")
	}
	more, ok := impl.WithDefaults(m, l)
	checkLayer(t, "WithDefaults", more, ok, nil, false)
	for i, got := range []impl.Layer{impl.Migrate(m, l), impl.CanonFlat(m, l), impl.NarrowFlat(m, l), impl.LessDefaults(m, l)} {
		if len(got.Entries) != 0 {
			t.Errorf("function %d makes %+v", i, got)
		}
	}
	checkRefs(t, "UnusedFields", impl.UnusedFields(m, l), nil)
	spots := []spot{{"", "x"}, {"a", "x"}, {"a", "port"}, {"a", "wait"}, {"", ""}, {"", "base"}}
	for _, f := range m.Fields[:min(3, len(m.Fields))] {
		spots = append(spots, fieldSpot(f))
	}
	for _, e := range l.Entries[:min(3, len(l.Entries))] {
		spots = append(spots, spotOf(e))
	}
	for _, p := range spots {
		x, ok := impl.TypedOf(m, l, p.section, p.key)
		checkTyped(t, "TypedOf", x, ok, impl.Typed{}, false)
	}
	if t.Failed() {
		t.Fatalf("with the schema %+v and the layer %+v", m, l)
	}
}

func TestSchemasThatAreNotValid(t *testing.T) {
	good := []impl.Layer{{}, lay("x=1"), lay("a.x=5", "y=1", "abc.other=1"), lay("a.port=80", "a.base=b"), manyKeys("a", 0, 20)}
	other := append(notFlat(), badLayers()...)
	for i, m := range badSchemas() {
		for _, l := range append(good, other[i%len(other)]) {
			checkOtherSchema(t, m, l)
		}
	}
	for _, l := range other {
		for _, m := range []impl.Schema{{}, server, smallSchema, schemaOf("x text;=1", "y text;=2", "abc.other text;=", "b.ka text")} {
			checkOtherSchema(t, m, l)
		}
	}
}

func TestSchemasShareNoMemory(t *testing.T) {
	old := append([]string{"listen", "at"}, make([]string, 4)...)
	fields := append(slices.Clone(server.Fields), make([]impl.Field, 4)...)
	fields[0].Old = old[:2]
	m := impl.Schema{Fields: fields[:6]}
	whole := append(lay("a.port=80", "a.wait=60s", "people=a,b", "a.base=b").Entries, make([]impl.Entry, 8)...)
	l := impl.Layer{Entries: whole[:4]}
	before, beforeOld, told := slices.Clone(whole), slices.Clone(old), impl.Schema{Fields: slices.Clone(m.Fields)}
	for range 2 {
		more, ok := impl.WithDefaults(m, l)
		clean := impl.Layer{Entries: whole[:2]}
		for i, got := range []impl.Layer{impl.DefaultsOf(m), more, impl.Migrate(m, l), impl.Migrate(m, clean), impl.CanonFlat(m, l), impl.CanonFlat(m, impl.Layer{Entries: whole[:1]}), impl.NarrowFlat(m, l), impl.NarrowFlat(m, clean), impl.LessDefaults(m, l), impl.LessDefaults(impl.Schema{}, l)} {
			if !ok || len(got.Entries) == 0 {
				t.Fatalf("function %d makes nothing", i)
			}
			for j := range got.Entries[:cap(got.Entries)] {
				got.Entries[:cap(got.Entries)][j].Value = "changed"
			}
		}
		problems, refs := impl.CheckFlat(m, l), impl.UnusedFields(m, l)
		checkProblems(t, "CheckFlat", problems, toldProblems("old:people missing:name missing:users"))
		checkRefs(t, "UnusedFields", refs, []impl.Ref{{Key: "name"}, {Section: "a", Key: "room"}, {Section: "b", Key: "on"}, {Key: "users"}})
		problems[0].Key, refs[0].Key = "changed", "changed"
		users := impl.Migrate(m, l)
		x, ok := impl.TypedOf(m, users, "", "users")
		checkTyped(t, "TypedOf", x, ok, typedList("a", "b"), true)
		x.Items[0] = "changed"
		f, ok := impl.TemplateOf(m)
		if !ok || len(f.Lines) != 14 {
			t.Fatalf("TemplateOf = %+v", f)
		}
		f.Lines[0].Value = "changed"
		if !slices.Equal(whole, before) || !slices.Equal(old, beforeOld) {
			t.Fatalf("the layer is %+v, and the old names are %q", whole, old)
		}
		for i, f := range told.Fields {
			if toldField(f) != toldField(m.Fields[i]) || fields[6+i%4].Key != "" {
				t.Fatalf("the schema is %+v", fields)
			}
		}
	}
}

// toldField returns a field as a text.
func toldField(f impl.Field) string {
	return fmt.Sprintf("%#v", f)
}
