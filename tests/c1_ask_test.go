package tests

import (
	"maps"
	"slices"
	"testing"

	"loop.example/settinglayers/impl"
)

// twice is the text of a file in which sections and keys come twice, with values without bytes and notes between.
const twice = "# top\nk = 1\n\n# first\n  [a] \nx= one \n# why\n  # so\ny =2\n# not x\n\n# x\nx =\n[b]\n# b\n[a]\n# last\nx=three\ny=\n"

func TestAskTwice(t *testing.T) {
	f := parse(t, twice)
	if got := impl.SectionsOf(f); !slices.Equal(got, []string{"", "a", "b"}) {
		t.Errorf("SectionsOf = %q", got)
	}
	for s, want := range map[string][]string{"": {"k"}, "a": {"x", "y"}, "b": nil, "c": nil, "A": nil} {
		if got := impl.KeysOf(f, s); !slices.Equal(got, want) {
			t.Errorf("KeysOf(%q) = %q", s, got)
		}
	}
	for _, c := range []struct {
		s, key string
		at     int
		value  string
		notes  []string
	}{
		{"", "k", 1, "1", []string{"# top"}},
		{"a", "x", 17, "three", []string{"# last"}},
		{"a", "y", 18, "", nil},
		{"a", "k", -1, "", nil},
		{"b", "x", -1, "", nil},
		{"", "x", -1, "", nil},
		{"c", "x", -1, "", nil},
		{"a", "", -1, "", nil},
		{"a", "X", -1, "", nil},
		{" ", "k", -1, "", nil},
	} {
		if got := impl.WhereIs(f, c.s, c.key); got != c.at {
			t.Errorf("WhereIs(%q, %q) = %d", c.s, c.key, got)
		}
		if got, ok := impl.GetValue(f, c.s, c.key); got != c.value || ok != (c.at >= 0) {
			t.Errorf("GetValue(%q, %q) = %q, %v", c.s, c.key, got, ok)
		}
		if got := impl.NotesOf(f, c.s, c.key); !slices.Equal(got, c.notes) {
			t.Errorf("NotesOf(%q, %q) = %q", c.s, c.key, got)
		}
	}
}

func TestSectionsOfHeadsAndPairs(t *testing.T) {
	for s, want := range map[string][]string{
		"":                                nil,
		"\n# n\n":                         nil,
		"x=\n":                            {""},
		"[b]\nx=\n":                       {"b"},
		"# n\n\n[b]\n":                    {"b"},
		"# n\nx=\n[b]\n[a]\n":             {"", "b", "a"},
		"[b]\n[a]\n[b]\nx=\n[a]\n[c]\n":   {"b", "a", "c"},
		"x=\ny=\nx=\n[x]\nx=\n[y]\n[x]\n": {"", "x", "y"},
	} {
		if got := impl.SectionsOf(parse(t, s)); !slices.Equal(got, want) {
			t.Errorf("SectionsOf(%q) = %q; want %q", s, got, want)
		}
	}
}

func TestNotesBetween(t *testing.T) {
	for s, want := range map[string][]string{
		"x=1\n":                            nil,
		"# n\nx=1\n":                       {"# n"},
		"  # n  \n    #\nx=1\n":            {"# n  ", "#"},
		"# n\n\nx=1\n":                     nil,
		"# m\n\n# n\nx=1\n":                {"# n"},
		"# m\ny=1\n# n\n# o\nx=1\n":        {"# n", "# o"},
		"# m\nx=1\nx=2\n":                  nil,
		"# m\nx=1\n# n\nx=2\n# o\n":        {"# n"},
		"x=1\n# o\n":                       nil,
		"# m\nx=1\n# o\n[a]\n# n\nx=2\n":   {"# m"},
		"#1\n#2\n#3\n#4\n#5\n#6\n#7\nx=\n": {"#1", "#2", "#3", "#4", "#5", "#6", "#7"},
	} {
		if got := impl.NotesOf(parse(t, s), "", "x"); !slices.Equal(got, want) {
			t.Errorf("NotesOf(%q) = %q; want %q", s, got, want)
		}
	}
}

func TestAskAllFiles(t *testing.T) {
	eachFile(t, func(t *testing.T, f impl.File, rows []row) {
		if got, want := impl.SectionsOf(f), wantSections(rows); !slices.Equal(got, want) {
			t.Errorf("SectionsOf = %q; want %q", got, want)
		}
		for _, s := range someSections {
			if got, want := impl.KeysOf(f, s), wantKeys(rows, s); !slices.Equal(got, want) {
				t.Errorf("KeysOf(%q) = %q; want %q", s, got, want)
			}
		}
		eachPlace(func(s, key string) {
			at, value := wantWhere(rows, s, key), ""
			if at >= 0 {
				value = rows[at].line.Value
			}
			if got := impl.WhereIs(f, s, key); got != at {
				t.Errorf("WhereIs(%q, %q) = %d; want %d", s, key, got, at)
			}
			if got, ok := impl.GetValue(f, s, key); got != value || ok != (at >= 0) {
				t.Errorf("GetValue(%q, %q) = %q, %v; want %q", s, key, got, ok, value)
			}
			if got, want := impl.NotesOf(f, s, key), wantNotes(rows, s, key); !slices.Equal(got, want) {
				t.Errorf("NotesOf(%q, %q) = %q; want %q", s, key, got, want)
			}
		})
	})
}

func TestSameMeaning(t *testing.T) {
	for _, c := range []struct {
		f, g string
		want bool
	}{
		{"", "", true},
		{"", "# n\n\n[a]\n", true},
		{"x=1\n", "# n\n  x  = 1 \n", true},
		{"x=1\ny=2\n", "y=2\nx=1\n", true},
		{"x=3\nx=1\n", "x=1\n", true},
		{"[a]\nx=1\n[b]\nx=2\n", "[b]\nx=2\n[a]\nx=1\n", true},
		{"[a]\nx=1\n[b]\n[a]\ny=\n", "[a]\ny=\nx=1\n", true},
		{"x=\n", "x=\n[b]\n", true},
		{"x=1\n", "", false},
		{"x=\n", "", false},
		{"x=1\n", "x=2\n", false},
		{"x=1\n", "x=\n", false},
		{"x=1\n", "y=1\n", false},
		{"x=1\n", "[a]\nx=1\n", false},
		{"[a]\nx=1\n", "[b]\nx=1\n", false},
		{"x=1\n", "x=1\ny=2\n", false},
		{"x=1\n", "x=1\n[a]\nx=1\n", false},
		{"x=1\nx=2\n", "x=1\n", false},
		{"[a]\nx=1\n[b]\nx=2\n", "[a]\nx=2\n[b]\nx=1\n", false},
	} {
		f, g := parse(t, c.f), parse(t, c.g)
		if impl.SameMeaning(f, g) != c.want || impl.SameMeaning(g, f) != c.want {
			t.Errorf("SameMeaning(%q, %q) is not %v both ways", c.f, c.g, c.want)
		}
	}
}

func TestSameMeaningOfAllShortFiles(t *testing.T) {
	short := texts()[:585]
	var files []impl.File
	var meanings []map[[2]string]string
	for _, s := range short {
		files = append(files, parse(t, s))
		meanings = append(meanings, wantMeaning(rowsOf(t, s)))
	}
	for i := 0; i < len(short); i++ {
		for j := i % 7; j < len(short); j += 7 {
			want := maps.Equal(meanings[i], meanings[j])
			if got := impl.SameMeaning(files[i], files[j]); got != want {
				t.Fatalf("SameMeaning(%q, %q) = %v", short[i], short[j], got)
			}
		}
	}
}
