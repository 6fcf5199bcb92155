package tests

import (
	"slices"
	"testing"

	"loop.example/settinglayers/impl"
)

// The tests of this file have the numbers of the document's promises.

// onlyMissing reports whether problems are of missing keys alone.
func onlyMissing(problems []impl.Problem) bool {
	return !slices.ContainsFunc(problems, func(p impl.Problem) bool { return p.Kind != impl.PbMissing })
}

// problemAt returns the problem of a spot, if there is one.
func problemAt(problems []impl.Problem, p spot) (impl.Problem, bool) {
	i := slices.IndexFunc(problems, func(x impl.Problem) bool { return p == spot{x.Section, x.Key} })
	if i < 0 {
		return impl.Problem{}, false
	}
	return problems[i], true
}

// checkSameValues checks that TypedOf each field of a schema is the same in two layers, and returns how many have one.
func checkSameValues(t *testing.T, what string, m impl.Schema, got, want impl.Layer) int {
	t.Helper()
	n := 0
	for _, f := range m.Fields {
		x, ok := impl.TypedOf(m, got, f.Section, f.Key)
		y, had := impl.TypedOf(m, want, f.Section, f.Key)
		checkTyped(t, "TypedOf "+f.Key+" in "+what, x, ok, y, had)
		if had {
			n++
		}
	}
	return n
}

func TestP85SchemasCanBeCut(t *testing.T) {
	n, missing := 0, 0
	eachSchema(t, func(t *testing.T, m impl.Schema) {
		for all := m.Fields; len(all) > 0; all = all[:len(all)-1] {
			m.Fields = all
			problems := impl.CheckFlat(m, impl.DefaultsOf(m))
			if !impl.ValidSchema(m) || !onlyMissing(problems) || impl.IsClean(m, impl.DefaultsOf(m)) != (len(problems) == 0) {
				t.Errorf("ValidSchema = %v, and CheckFlat = %+v of the defaults", impl.ValidSchema(m), problems)
			}
			n += len(impl.DefaultsOf(m).Entries)
			missing += len(problems)
		}
	})
	enough(t, "defaults", n, 2000)
	enough(t, "missing keys", missing, 500)
}

func TestP86FieldsAreAtTheirPlaces(t *testing.T) {
	n := 0
	eachSchema(t, func(t *testing.T, m impl.Schema) {
		for i, f := range m.Fields {
			if n++; impl.FieldAt(m, f.Section, f.Key) != i {
				t.Errorf("FieldAt the field %d = %d", i, impl.FieldAt(m, f.Section, f.Key))
			}
		}
		for _, p := range append(schemaSpots(m, true), someSpots...) {
			at := impl.FieldAt(m, p.section, p.key)
			if at >= 0 && fieldSpot(m.Fields[at]) != p || at < -1 {
				t.Errorf("FieldAt %+v = %d", p, at)
			}
		}
	})
	enough(t, "fields", n, 2000)
}

func TestP87NewNamesHaveFields(t *testing.T) {
	n := 0
	eachSchema(t, func(t *testing.T, m impl.Schema) {
		for _, p := range append(schemaSpots(m, true), someSpots...) {
			name, ok := impl.NewNameOf(m, p.section, p.key)
			if !ok {
				continue
			}
			n++
			at := impl.FieldAt(m, p.section, name)
			if at < 0 || impl.FieldAt(m, p.section, p.key) != -1 || !slices.Contains(m.Fields[at].Old, p.key) {
				t.Errorf("NewNameOf %+v = %q, which is at %d", p, name, at)
			}
		}
		for _, f := range m.Fields {
			for _, old := range f.Old {
				name, ok := impl.NewNameOf(m, f.Section, old)
				checkFound(t, "NewNameOf "+old, name, ok, f.Key, true)
			}
		}
	})
	enough(t, "old names", n, 2000)
}

func TestP88ProblemsAreOfKeys(t *testing.T) {
	n := make([]int, 5)
	eachSchemaLayer(t, func(t *testing.T, m impl.Schema, l impl.Layer) {
		met := map[spot]bool{}
		for _, x := range impl.CheckFlat(m, l) {
			p := spot{x.Section, x.Key}
			if x.Kind < 0 || x.Kind > 4 {
				t.Fatalf("CheckFlat tells %+v", x)
			}
			if _, there := wantEntry(l, p); there == (x.Kind == impl.PbMissing) || met[p] {
				t.Errorf("CheckFlat tells %+v", x)
			}
			met[p] = true
			n[x.Kind]++
		}
	})
	for kind, least := range []int{5000, 5000, 1000, 1000, 1000} {
		enough(t, "problems of the kind "+string(rune('0'+kind)), n[kind], least)
	}
}

func TestP89WhatIsRightHasAValue(t *testing.T) {
	right, wrong := 0, 0
	eachSchemaLayer(t, func(t *testing.T, m impl.Schema, l impl.Layer) {
		problems := impl.CheckFlat(m, l)
		for _, e := range l.Entries {
			if impl.FieldAt(m, e.Section, e.Key) < 0 {
				continue
			}
			x, ok := impl.TypedOf(m, l, e.Section, e.Key)
			if told, bad := problemAt(problems, spotOf(e)); ok == bad {
				t.Errorf("TypedOf %+v = %+v, %v; CheckFlat tells %+v, %v", e, x, ok, told, bad)
			}
			if ok {
				right++
			} else {
				wrong++
			}
		}
	})
	enough(t, "keys are right", right, 10000)
	enough(t, "keys are wrong", wrong, 2000)
}

func TestP90CleanLayersHaveNoProblems(t *testing.T) {
	clean, full := 0, 0
	eachSchemaLayer(t, func(t *testing.T, m impl.Schema, l impl.Layer) {
		is := len(impl.CheckFlat(m, l)) == 0
		if impl.IsClean(m, l) != is {
			t.Errorf("IsClean = %v", !is)
		}
		if !is {
			return
		}
		if canon := impl.CanonFlat(m, l); !impl.IsClean(m, canon) {
			t.Errorf("CheckFlat of the canonical layer = %+v", impl.CheckFlat(m, canon))
		}
		if more, ok := impl.WithDefaults(m, l); ok && !impl.IsClean(m, more) {
			t.Errorf("CheckFlat with defaults = %+v", impl.CheckFlat(m, more))
		}
		if clean++; len(l.Entries) > 2 {
			full++
		}
	})
	enough(t, "layers are clean", clean, 1000)
	enough(t, "layers with entries are clean", full, 300)
}

func TestP91DefaultsAreValues(t *testing.T) {
	n, bounded := 0, 0
	eachSchema(t, func(t *testing.T, m impl.Schema) {
		l := impl.DefaultsOf(m)
		if !impl.IsFlat(l) {
			t.Errorf("DefaultsOf = %+v", l)
		}
		for _, e := range l.Entries {
			f := m.Fields[impl.FieldAt(m, e.Section, e.Key)]
			want, ok := impl.ReadTyped(f.Kind, f.Default)
			got, found := impl.TypedOf(m, impl.Layer{}, e.Section, e.Key)
			checkTyped(t, "TypedOf "+e.Key, got, found, want, true)
			if !ok || e.Value != f.Default || !f.HasDefault {
				t.Errorf("DefaultsOf has %+v of %+v", e, f)
			}
			if n++; f.Bounded {
				bounded++
			}
		}
		for _, f := range m.Fields {
			if _, ok := wantEntry(l, fieldSpot(f)); ok != f.HasDefault {
				t.Errorf("DefaultsOf = %+v", l)
			}
		}
	})
	enough(t, "defaults", n, 1000)
	enough(t, "defaults in bounds", bounded, 200)
}

func TestP92DefaultsLieBelow(t *testing.T) {
	n, added := 0, 0
	eachSchemaLayer(t, func(t *testing.T, m impl.Schema, l impl.Layer) {
		more, ok := impl.WithDefaults(m, l)
		if !ok {
			return
		}
		n += checkSameValues(t, "the layer with defaults", m, more, l)
		for _, e := range l.Entries {
			value, ok := impl.Resolve([]impl.Layer{more}, e.Section, e.Key)
			checkFound(t, "the value of "+e.Key, value, ok, e.Value, true)
		}
		added += len(more.Entries) - len(l.Entries)
	})
	enough(t, "fields have values", n, 10000)
	enough(t, "defaults are added", added, 5000)
}

func TestP93DefaultsCanBeLeftOut(t *testing.T) {
	n, left := 0, 0
	eachSchemaLayer(t, func(t *testing.T, m impl.Schema, l impl.Layer) {
		less := impl.LessDefaults(m, l)
		n += checkSameValues(t, "the layer without defaults", m, less, l)
		left += len(l.Entries) - len(less.Entries)
		more, ok := impl.WithDefaults(m, less)
		if !ok {
			return
		}
		checkSameValues(t, "the layer without defaults with defaults", m, more, l)
		for _, e := range l.Entries {
			value, ok := impl.Resolve([]impl.Layer{more}, e.Section, e.Key)
			at := impl.FieldAt(m, e.Section, e.Key)
			if !ok || value != e.Value && (at < 0 || !impl.SameValue(m.Fields[at].Kind, value, e.Value)) {
				t.Errorf("it has %q, %v for %+v", value, ok, e)
			}
		}
	})
	enough(t, "fields have values", n, 10000)
	enough(t, "defaults are left out", left, 2000)
}

func TestP94MigratedLayersHaveNoOldNames(t *testing.T) {
	n := 0
	eachSchemaLayer(t, func(t *testing.T, m impl.Schema, l impl.Layer) {
		to := impl.Migrate(m, l)
		if !impl.IsFlat(to) {
			t.Errorf("Migrate = %+v", to)
		}
		for _, x := range impl.CheckFlat(m, to) {
			if x.Kind == impl.PbOld {
				t.Errorf("CheckFlat after Migrate tells %+v", x)
			}
		}
		for _, x := range impl.CheckFlat(m, l) {
			if x.Kind == impl.PbOld {
				n++
			}
		}
		checkLayer(t, "Migrate twice", impl.Migrate(m, to), true, to.Entries, true)
	})
	enough(t, "old names", n, 5000)
}

func TestP95MigratedValuesAreKept(t *testing.T) {
	kept, lost := 0, 0
	eachSchemaLayer(t, func(t *testing.T, m impl.Schema, l impl.Layer) {
		to := impl.Migrate(m, l)
		met := map[spot]bool{}
		for _, e := range l.Entries {
			name, old := impl.NewNameOf(m, e.Section, e.Key)
			if !old {
				got, ok := wantEntry(to, spotOf(e))
				if !ok || got != e {
					t.Errorf("Migrate has %+v, %v for %+v", got, ok, e)
				}
				continue
			}
			p := spot{e.Section, name}
			if _, there := wantEntry(l, p); there || met[p] {
				lost++
				continue
			}
			met[p] = true
			kept++
			value, ok := impl.Resolve([]impl.Layer{to}, p.section, p.key)
			checkFound(t, "the value of "+name, value, ok, e.Value, true)
		}
	})
	enough(t, "values are kept", kept, 2000)
	enough(t, "values are lost", lost, 2000)
}

func TestP96CanonicalLayersMeanTheSame(t *testing.T) {
	n, turned := 0, 0
	eachSchemaLayer(t, func(t *testing.T, m impl.Schema, l impl.Layer) {
		canon := impl.CanonFlat(m, l)
		n += checkSameValues(t, "the canonical layer", m, canon, l)
		if !impl.IsFlat(canon) || len(canon.Entries) != len(l.Entries) {
			t.Fatalf("CanonFlat = %+v", canon)
		}
		for i, e := range canon.Entries {
			if spotOf(e) != spotOf(l.Entries[i]) {
				t.Errorf("CanonFlat = %+v", canon)
			}
			if e != l.Entries[i] {
				turned++
			}
		}
		checkLayer(t, "CanonFlat twice", impl.CanonFlat(m, canon), true, canon.Entries, true)
	})
	enough(t, "fields have values", n, 10000)
	enough(t, "values are made canonical", turned, 3000)
}

func TestP97ValuesOfFieldsAreOfTheirKinds(t *testing.T) {
	n, bounded := make([]int, 6), 0
	eachSchemaLayer(t, func(t *testing.T, m impl.Schema, l impl.Layer) {
		for _, f := range m.Fields {
			x, ok := impl.TypedOf(m, l, f.Section, f.Key)
			if !ok {
				continue
			}
			n[x.Kind]++
			if x.Kind != f.Kind || !impl.ValidTyped(x) || f.Bounded && !impl.InBounds(x, f.Low, f.High) {
				t.Errorf("TypedOf %+v = %+v", f, x)
			}
			if f.Bounded {
				bounded++
			}
		}
	})
	for kind, least := range []int{2000, 1000, 1000, 1000, 1000, 1000} {
		enough(t, "values are of the kind "+kindWords[kind], n[kind], least)
	}
	enough(t, "values have bounds", bounded, 2000)
}

func TestP98TemplatesHaveAllFields(t *testing.T) {
	n := 0
	eachSchema(t, func(t *testing.T, m impl.Schema) {
		f, ok := impl.TemplateOf(m)
		if !ok {
			return
		}
		l := impl.LayerOf(f)
		if !impl.ValidFile(f) || len(l.Entries) != len(m.Fields) {
			t.Errorf("LayerOf TemplateOf = %+v", l)
		}
		for _, field := range m.Fields {
			n++
			e, ok := wantEntry(l, fieldSpot(field))
			if !ok || e.Value != field.Default {
				t.Errorf("LayerOf TemplateOf has %+v of %+v", e, field)
			}
			note := "# " + kindWords[field.Kind]
			if field.Need {
				note += " needed"
			}
			checkTexts(t, "NotesOf "+field.Key, impl.NotesOf(f, field.Section, field.Key), []string{note})
		}
	})
	enough(t, "fields", n, 1500)
}

func TestP99UnusedFieldsHaveNoEntry(t *testing.T) {
	unused, used := 0, 0
	eachSchemaLayer(t, func(t *testing.T, m impl.Schema, l impl.Layer) {
		there := map[spot]int{}
		for _, r := range impl.UnusedFields(m, l) {
			there[spot{r.Section, r.Key}]++
			unused++
			if impl.FieldAt(m, r.Section, r.Key) < 0 {
				t.Errorf("UnusedFields have %+v", r)
			}
		}
		for _, e := range l.Entries {
			if impl.FieldAt(m, e.Section, e.Key) >= 0 {
				there[spotOf(e)]++
				used++
			}
		}
		for _, f := range m.Fields {
			if there[fieldSpot(f)] != 1 {
				t.Errorf("%+v is there %d times", f, there[fieldSpot(f)])
			}
		}
	})
	enough(t, "fields are unused", unused, 5000)
	enough(t, "fields are used", used, 5000)
}

func TestP100NarrowLayersAreCleanButForWhatIsMissing(t *testing.T) {
	left, kept := 0, 0
	eachSchemaLayer(t, func(t *testing.T, m impl.Schema, l impl.Layer) {
		narrow := impl.NarrowFlat(m, l)
		if problems := impl.CheckFlat(m, narrow); !impl.IsFlat(narrow) || !onlyMissing(problems) {
			t.Errorf("CheckFlat of NarrowFlat = %+v", problems)
		}
		checkLayer(t, "NarrowFlat twice", impl.NarrowFlat(m, narrow), true, narrow.Entries, true)
		problems := impl.CheckFlat(m, l)
		for _, e := range l.Entries {
			_, wrong := problemAt(problems, spotOf(e))
			if _, there := wantEntry(narrow, spotOf(e)); there == wrong {
				t.Errorf("NarrowFlat = %+v, CheckFlat = %+v", narrow, problems)
			}
		}
		left += len(l.Entries) - len(narrow.Entries)
		kept += len(narrow.Entries)
	})
	enough(t, "entries are left out", left, 5000)
	enough(t, "entries are kept", kept, 5000)
}

func TestP101WhatIsADefaultIsLeftOut(t *testing.T) {
	left, others := 0, 0
	eachSchemaLayer(t, func(t *testing.T, m impl.Schema, l impl.Layer) {
		less := impl.LessDefaults(m, l)
		for _, e := range l.Entries {
			at := impl.FieldAt(m, e.Section, e.Key)
			is := at >= 0 && m.Fields[at].HasDefault && impl.SameValue(m.Fields[at].Kind, e.Value, m.Fields[at].Default)
			if slices.Contains(less.Entries, e) == is {
				t.Errorf("LessDefaults = %+v", less)
			}
			if is && e.Value != m.Fields[at].Default {
				others++
			}
		}
		for _, e := range less.Entries {
			if !slices.Contains(l.Entries, e) {
				t.Errorf("LessDefaults = %+v", less)
			}
		}
		left += len(l.Entries) - len(less.Entries)
	})
	enough(t, "defaults are left out", left, 2000)
	enough(t, "defaults in other texts", others, 300)
}

func TestP135TemplatesOfDefaultsAreClean(t *testing.T) {
	n := 0
	eachSchema(t, func(t *testing.T, m impl.Schema) {
		f, ok := impl.TemplateOf(m)
		if !ok || slices.ContainsFunc(m.Fields, func(f impl.Field) bool { return !f.HasDefault }) {
			return
		}
		l := impl.LayerOf(f)
		if !impl.IsClean(m, l) {
			t.Errorf("CheckFlat of LayerOf TemplateOf = %+v", impl.CheckFlat(m, l))
		}
		checkLayer(t, "LessDefaults of LayerOf TemplateOf", impl.LessDefaults(m, l), true, nil, true)
		n += len(m.Fields)
	})
	enough(t, "fields with defaults", n, 300)
}

func TestP136DefaultsAreALayer(t *testing.T) {
	n, none := 0, 0
	eachSchemaLayer(t, func(t *testing.T, m impl.Schema, l impl.Layer) {
		more, ok := impl.WithDefaults(m, l)
		flat, fits := impl.Flatten([]impl.Layer{l, impl.DefaultsOf(m)})
		if ok != fits || ok && (!impl.IsFlat(more) || !impl.SameLayers(more, flat) || !sameSet(more.Entries, flat.Entries)) {
			t.Errorf("WithDefaults = %+v, %v; Flatten = %+v, %v", more, ok, flat, fits)
		}
		if ok {
			n++
		} else {
			none++
		}
	})
	enough(t, "layers have defaults", n, 5000)
	enough(t, "layers with defaults have too many entries", none, 20)
}
