package tests

import (
	"slices"
	"strings"
	"testing"

	"loop.example/settinglayers/impl"
)

func TestSetValueInPlaces(t *testing.T) {
	for _, c := range []struct{ f, s, key, value, want string }{
		{"", "", "x", "1", "x = 1\n"},
		{"", "a", "x", "1", "[a]\nx = 1\n"},
		{"", "", "x", "", "x = \n"},
		{"# n\n\n[a]\n", "", "x", "1", "x = 1\n# n\n\n[a]\n"},
		{"# n\n", "", "x", "1", "x = 1\n# n\n"},
		{"# n\ny=\n# m\n\n[a]\nx=2\n", "", "x", "1", "# n\ny=\nx = 1\n# m\n\n[a]\nx=2\n"},
		{"[a]\n# n\n\n[b]\n", "a", "x", "1", "[a]\nx = 1\n# n\n\n[b]\n"},
		{"[a]\n# n\ny=2\n# m\n[b]\nx=\n", "a", "x", "1", "[a]\n# n\ny=2\nx = 1\n# m\n[b]\nx=\n"},
		{"[a]\ny=2\n[b]\n  [a]  \n\n", "a", "x", "1", "[a]\ny=2\n[b]\n  [a]  \nx = 1\n\n"},
		{"[a]\ny=2\n[b]\n[a]\nz=3\n# n\n", "a", "x", "1", "[a]\ny=2\n[b]\n[a]\nz=3\nx = 1\n# n\n"},
		{"[a]\n# n\n\n", "b", "x", "1", "[a]\n# n\n\n[b]\nx = 1\n"},
		{"x=1\n", "x", "x", "2", "x=1\n[x]\nx = 2\n"},
		{"  x  =  1  \n", "", "x", "2", "  x  =  2  \n"},
		{"  x  =  1  \n", "", "x", "", "  x  =  \n"},
		{"x=\n", "", "x", "1", "x=1\n"},
		{"x=    \n", "", "x", "", "x=    \n"},
		{"x=1\nx=2\n", "", "x", "3", "x=1\nx=3\n"},
		{"[a]\nx=1\n[b]\nx=2\n[a]\nx=3 \n[b]\n", "a", "x", "4", "[a]\nx=1\n[b]\nx=2\n[a]\nx=4 \n[b]\n"},
		{"[a]\nx=1 \n[b]\nx=2\n[a]\n", "a", "x", "4", "[a]\nx=4 \n[b]\nx=2\n[a]\n"},
	} {
		g, ok := impl.SetValue(parse(t, c.f), c.s, c.key, c.value)
		checkTurned(t, "SetValue", g, ok, c.want, true)
	}
}

func TestSetValueOfOtherArguments(t *testing.T) {
	f := parse(t, "x=1\n[a]\nx=1\n")
	for _, c := range []struct{ s, key, value string }{
		{"A", "x", "1"}, {" ", "x", "1"}, {"abcdefghi", "x", "1"}, {"a b", "x", "1"}, {"é", "x", "1"},
		{"", "", "1"}, {"a", "", "1"}, {"a", "X", "1"}, {"", "abcdefghi", "1"}, {"b", "x=", "1"}, {"b", " x", "1"},
		{"a", "x", " "}, {"a", "x", " 1"}, {"a", "x", "1 "}, {"", "x", "1\n"}, {"", "y", "\t"}, {"b", "y", "é"}, {"a", "x", strings.Repeat("v", 41)}, {"b", "y", strings.Repeat("v", 41)},
	} {
		g, ok := impl.SetValue(f, c.s, c.key, c.value)
		checkTurned(t, "SetValue", g, ok, "", false)
	}
	v40 := strings.Repeat("v", 40)
	g, ok := impl.SetValue(f, "abcdefgh", "abcdefgh", v40)
	checkTurned(t, "SetValue", g, ok, "x=1\n[a]\nx=1\n[abcdefgh]\nabcdefgh = "+v40+"\n", true)
}

func TestSetValueUpToTheLimit(t *testing.T) {
	for _, c := range []struct {
		lines  int
		s, key string
		want   bool
	}{{20, "a", "x", true}, {20, "a", "y", false}, {20, "", "x", false}, {20, "b", "x", false}, {19, "a", "y", true}, {19, "", "x", true}, {19, "b", "x", false}, {18, "b", "x", true}} {
		text := "[a]\nx=1\n" + strings.Repeat("\n", c.lines-2)
		want, _ := wantSet(rowsOf(t, text), c.s, c.key, "2")
		g, ok := impl.SetValue(parse(t, text), c.s, c.key, "2")
		checkTurned(t, "SetValue", g, ok, want, c.want)
	}
}

func TestDropKeyTwice(t *testing.T) {
	g, ok := impl.DropKey(parse(t, twice), "a", "x")
	checkTurned(t, "DropKey", g, ok, "# top\nk = 1\n\n# first\n  [a] \n# why\n  # so\ny =2\n# not x\n\n# x\n[b]\n# b\n[a]\n# last\ny=\n", true)
	g, ok = impl.DropKey(parse(t, "x=\n"), "", "x")
	checkTurned(t, "DropKey", g, ok, "", true)
	for _, c := range [][2]string{{"", "x"}, {"b", "x"}, {"c", "x"}, {"a", "k"}, {"a", ""}, {"a", "X"}, {"A", "x"}, {"k", "k"}} {
		g, ok := impl.DropKey(parse(t, twice), c[0], c[1])
		checkTurned(t, "DropKey", g, ok, "", false)
	}
}

func TestDropSectionTwice(t *testing.T) {
	g, ok := impl.DropSection(parse(t, twice), "a")
	checkTurned(t, "DropSection", g, ok, "# top\nk = 1\n\n# first\n[b]\n# b\n", true)
	g, ok = impl.DropSection(parse(t, twice), "b")
	checkTurned(t, "DropSection", g, ok, strings.Replace(twice, "[b]\n# b\n", "", 1), true)
	g, ok = impl.DropSection(parse(t, "[a]\n"), "a")
	checkTurned(t, "DropSection", g, ok, "", true)
	for _, s := range []string{"", "c", "k", "x", "A", "[a]", " "} {
		g, ok := impl.DropSection(parse(t, twice), s)
		checkTurned(t, "DropSection", g, ok, "", false)
	}
}

func TestRenameKeyTwice(t *testing.T) {
	g, ok := impl.RenameKey(parse(t, twice), "a", "x", "k")
	checkTurned(t, "RenameKey", g, ok, "# top\nk = 1\n\n# first\n  [a] \nk= one \n# why\n  # so\ny =2\n# not x\n\n# x\nk =\n[b]\n# b\n[a]\n# last\nk=three\ny=\n", true)
	g, ok = impl.RenameKey(parse(t, "x=1\n[a]\nx=2\ny=\n"), "", "x", "y")
	checkTurned(t, "RenameKey", g, ok, "y=1\n[a]\nx=2\ny=\n", true)
	g, ok = impl.RenameKey(parse(t, "x=1\n"), "", "x", "abcdefgh")
	checkTurned(t, "RenameKey", g, ok, "abcdefgh=1\n", true)
	for _, c := range [][3]string{{"a", "x", "y"}, {"a", "y", "x"}, {"a", "x", "x"}, {"a", "k", "z"}, {"b", "x", "z"}, {"c", "x", "z"}, {"", "x", "z"}, {"a", "x", ""}, {"a", "x", "X"}, {"a", "x", "abcdefghi"}, {"a", "x", "z "}, {"a", "", "z"}, {"A", "x", "z"}} {
		g, ok := impl.RenameKey(parse(t, twice), c[0], c[1], c[2])
		checkTurned(t, "RenameKey", g, ok, "", false)
	}
}

func TestRenameSectionTwice(t *testing.T) {
	g, ok := impl.RenameSection(parse(t, twice), "a", "c")
	checkTurned(t, "RenameSection", g, ok, strings.ReplaceAll(twice, "[a]", "[c]"), true)
	g, ok = impl.RenameSection(parse(t, twice), "b", "abcdefgh")
	checkTurned(t, "RenameSection", g, ok, strings.ReplaceAll(twice, "[b]", "[abcdefgh]"), true)
	g, ok = impl.RenameSection(parse(t, twice), "a", "x")
	checkTurned(t, "RenameSection", g, ok, strings.ReplaceAll(twice, "[a]", "[x]"), true)
	for _, c := range [][2]string{{"a", "b"}, {"b", "a"}, {"a", "a"}, {"c", "d"}, {"", "d"}, {"a", ""}, {"a", "A"}, {"a", "abcdefghi"}, {"a", "d]"}, {"k", "d"}, {"A", "d"}} {
		g, ok := impl.RenameSection(parse(t, twice), c[0], c[1])
		checkTurned(t, "RenameSection", g, ok, "", false)
	}
}

func TestTidyFileTwice(t *testing.T) {
	if got := impl.FileText(impl.TidyFile(parse(t, twice))); got != "k = 1\n[a]\nx = three\ny = \n[b]\n" {
		t.Errorf("TidyFile = %q", got)
	}
	if g := impl.TidyFile(parse(t, " # n\n\n")); len(g.Lines) != 0 {
		t.Errorf("TidyFile of notes = %v", g)
	}
	if got := impl.FileText(impl.TidyFile(parse(t, "[b]\nx=1\n[a]\n  y  =  2  \nx=3\n [b] \ny=4\nx=\n"))); got != "[b]\nx = \ny = 4\n[a]\ny = 2\nx = 3\n" {
		t.Errorf("TidyFile = %q", got)
	}
}

func TestAddNoteTwice(t *testing.T) {
	g, ok := impl.AddNote(parse(t, twice), "a", "x", "# new ")
	checkTurned(t, "AddNote", g, ok, strings.Replace(twice, "# last\n", "# last\n# new \n", 1), true)
	g, ok = impl.AddNote(parse(t, "  x=1\n"), "", "x", "#")
	checkTurned(t, "AddNote", g, ok, "#\n  x=1\n", true)
	for _, c := range [][3]string{{"a", "x", ""}, {"a", "x", "n"}, {"a", "x", " # n"}, {"a", "x", "#\n"}, {"a", "x", "#\t"}, {"a", "x", "#é"}, {"a", "x", "#" + strings.Repeat("n", 40)}, {"", "x", "#"}, {"c", "x", "#"}, {"a", "k", "#"}, {"a", "", "#"}, {"A", "x", "#"}} {
		g, ok := impl.AddNote(parse(t, twice), c[0], c[1], c[2])
		checkTurned(t, "AddNote", g, ok, "", false)
	}
	n40 := "#" + strings.Repeat("n", 39)
	g, ok = impl.AddNote(parse(t, "x=1\n"+strings.Repeat("\n", 18)), "", "x", n40)
	checkTurned(t, "AddNote", g, ok, n40+"\nx=1\n"+strings.Repeat("\n", 18), true)
	g, ok = impl.AddNote(parse(t, "x=1\n"+strings.Repeat("\n", 19)), "", "x", n40)
	checkTurned(t, "AddNote", g, ok, "", false)
}

func TestTurnAllFiles(t *testing.T) {
	eachFile(t, func(t *testing.T, f impl.File, rows []row) {
		if got, want := impl.FileText(impl.TidyFile(f)), wantTidy(rows); got != want {
			t.Errorf("TidyFile = %q; want %q", got, want)
		}
		for _, s := range someSections {
			want, wantOK := wantDropSection(rows, s)
			g, ok := impl.DropSection(f, s)
			checkTurned(t, "DropSection of "+s, g, ok, want, wantOK)
			for _, to := range []string{"a", "b", "c"} {
				want, wantOK = wantRenameSection(rows, s, to)
				g, ok = impl.RenameSection(f, s, to)
				checkTurned(t, "RenameSection of "+s+" to "+to, g, ok, want, wantOK)
			}
		}
		eachPlace(func(s, key string) {
			at := s + "." + key
			for _, value := range []string{"", "9", "a  b"} {
				want, wantOK := wantSet(rows, s, key, value)
				g, ok := impl.SetValue(f, s, key, value)
				checkTurned(t, "SetValue of "+at+" to "+value, g, ok, want, wantOK)
			}
			want, wantOK := wantDropKey(rows, s, key)
			g, ok := impl.DropKey(f, s, key)
			checkTurned(t, "DropKey of "+at, g, ok, want, wantOK)
			want, wantOK = wantNoteAdded(rows, s, key, "# new")
			g, ok = impl.AddNote(f, s, key, "# new")
			checkTurned(t, "AddNote of "+at, g, ok, want, wantOK)
			for _, to := range someKeys {
				want, wantOK = wantRenameKey(rows, s, key, to)
				g, ok = impl.RenameKey(f, s, key, to)
				checkTurned(t, "RenameKey of "+at+" to "+to, g, ok, want, wantOK)
			}
		})
	})
}

// checkOther checks that each function has its fixed result for a file that is not valid.
func checkOther(t *testing.T, f impl.File) {
	t.Helper()
	if impl.ValidFile(f) || impl.FileText(f) != "" || impl.WhereIs(f, "a", "x") != -1 {
		t.Errorf("%+v is valid", f)
	}
	if value, ok := impl.GetValue(f, "a", "x"); ok || value != "" {
		t.Errorf("%+v has the value %q, %v", f, value, ok)
	}
	if len(impl.SectionsOf(f)) != 0 || len(impl.KeysOf(f, "a")) != 0 || len(impl.NotesOf(f, "a", "x")) != 0 || impl.TidyFile(f).Lines != nil {
		t.Errorf("%+v tells something", f)
	}
	for _, g := range []impl.File{f, parse(t, "[a]\n# n\nx=1\n"), {}} {
		if impl.SameMeaning(f, g) || impl.SameMeaning(g, f) {
			t.Errorf("%+v means what %+v means", f, g)
		}
	}
	check := func(g impl.File, ok bool) {
		t.Helper()
		checkTurned(t, "a function", g, ok, "", false)
	}
	check(impl.SetValue(f, "a", "x", "2"))
	check(impl.SetValue(f, "c", "x", "2"))
	check(impl.DropKey(f, "a", "x"))
	check(impl.DropKey(f, "a", "y"))
	check(impl.DropSection(f, "a"))
	check(impl.RenameKey(f, "a", "x", "z"))
	check(impl.RenameSection(f, "a", "c"))
	check(impl.AddNote(f, "a", "x", "# n"))
}

func TestFilesThatAreNotValid(t *testing.T) {
	base := parse(t, "[a]\n# n\nx=1\n").Lines
	for _, l := range badLines() {
		checkOther(t, impl.File{Lines: append(slices.Clone(base), l)})
		checkOther(t, impl.File{Lines: append([]impl.Line{l}, base...)})
	}
	checkOther(t, impl.File{Lines: append(slices.Clone(base), make([]impl.Line, 18)...)})
	checkOther(t, impl.File{Lines: append(make([]impl.Line, 1000), base...)})
	checkOther(t, impl.File{Lines: append(slices.Clone(base), slices.Repeat([]impl.Line{{Kind: impl.LnPair, Name: "y", Sep: "="}}, 18)...)})
}

// turns returns what each function that turns a file makes of one.
func turns(t *testing.T, f impl.File) []impl.File {
	var made []impl.File
	add := func(g impl.File, ok bool) {
		if !ok {
			t.Error("a function fails that should not")
		}
		made = append(made, g)
	}
	add(impl.SetValue(f, "a", "x", "9"))
	add(impl.SetValue(f, "a", "x", "2"))
	add(impl.SetValue(f, "a", "z", "9"))
	add(impl.SetValue(f, "", "z", "9"))
	add(impl.SetValue(f, "c", "x", "9"))
	add(impl.DropKey(f, "a", "x"))
	add(impl.DropKey(f, "a", "y"))
	add(impl.DropSection(f, "a"))
	add(impl.DropSection(f, "b"))
	add(impl.RenameKey(f, "a", "x", "z"))
	add(impl.RenameSection(f, "a", "c"))
	add(impl.TidyFile(f), true)
	add(impl.AddNote(f, "a", "x", "# n"))
	return made
}

func TestFilesShareNoMemory(t *testing.T) {
	for _, text := range []string{"k=1\n[a]\n# n\nx=2\ny=\n[b]\n", "k = 1\n[a]\nx = 2\ny = 3\n[b]\n"} {
		whole := append(parse(t, text).Lines, make([]impl.Line, 8)...)
		f := impl.File{Lines: whole[:len(whole)-8]}
		before := slices.Clone(whole)
		for i, g := range turns(t, f) {
			if !slices.Equal(whole, before) {
				t.Fatalf("function %d changes the file", i)
			}
			for j := range g.Lines[:cap(g.Lines)] {
				g.Lines[:cap(g.Lines)][j].Value = "changed"
			}
			if !slices.Equal(whole, before) {
				t.Fatalf("the file of function %d shares memory with the one before", i)
			}
		}
	}
}

func TestCallsKeepNothing(t *testing.T) {
	f := parse(t, twice)
	for range 2 {
		for _, list := range [][]string{impl.SectionsOf(f), impl.KeysOf(f, "a"), impl.NotesOf(f, "a", "x")} {
			for i := range list {
				list[i] = "changed"
			}
		}
		g := parse(t, twice)
		if !slices.Equal(impl.SectionsOf(f), impl.SectionsOf(g)) || !slices.Equal(impl.KeysOf(f, "a"), []string{"x", "y"}) || !slices.Equal(impl.NotesOf(f, "a", "x"), []string{"# last"}) || !sameFile(f, g) {
			t.Error("a list that is changed changes the next one")
		}
	}
}
