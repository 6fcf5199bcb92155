package tests

import (
	"slices"
	"strings"
	"testing"

	"loop.example/settinglayers/impl"
)

// The tests of this file have the numbers of the document's promises.

func TestP2ValuesAreSetAndGot(t *testing.T) {
	for _, s := range []string{"", "a", "base", "abcdefgh"} {
		for _, key := range []string{"x", "a", "base", "abcdefgh"} {
			for _, value := range []string{"", "1", "a  b", "=", "#", "[a]", strings.Repeat("v", 40)} {
				f, ok := impl.SetValue(impl.File{}, s, key, value)
				if got, has := impl.GetValue(f, s, key); !ok || !has || got != value || !impl.ValidFile(f) {
					t.Errorf("GetValue(%q, %q) = %q, %v after SetValue to %q: %v, %v", s, key, got, has, value, f, ok)
				}
			}
		}
	}
	for _, c := range [][3]string{{"A", "x", "1"}, {"abcdefghi", "x", "1"}, {"", "", "1"}, {"", "abcdefghi", "1"}, {"", "x", " 1"}, {"", "x", strings.Repeat("v", 41)}} {
		g, ok := impl.SetValue(impl.File{}, c[0], c[1], c[2])
		checkTurned(t, "SetValue", g, ok, "", false)
	}
}

func TestP3FilesCanBeCut(t *testing.T) {
	eachFile(t, func(t *testing.T, f impl.File, rows []row) {
		for n := range f.Lines {
			if !impl.ValidFile(impl.File{Lines: f.Lines[:n]}) {
				t.Errorf("the first %d lines are not valid", n)
			}
		}
		if !impl.ValidFile(impl.TidyFile(f)) {
			t.Error("the tidy file is not valid")
		}
	})
}

func TestP4FilesKeepAllBytes(t *testing.T) {
	check := func(f impl.File) {
		text := impl.FileText(f)
		if g, ok := impl.ParseFile(text); !ok || !sameFile(f, g) || len(g.Lines) != strings.Count(text, "\n") {
			t.Errorf("ParseFile(%q) = %+v, %v", text, g, ok)
		}
	}
	check(impl.File{})
	for _, l := range goodLines() {
		check(impl.File{Lines: []impl.Line{l}})
		for _, m := range goodLines() {
			check(impl.File{Lines: []impl.Line{l, m}})
		}
		check(impl.File{Lines: slices.Repeat([]impl.Line{l}, 20)})
	}
}

func TestP5TextsKeepAllBytes(t *testing.T) {
	for _, s := range append(texts(), twice) {
		if f, ok := impl.ParseFile(s); !ok || impl.FileText(f) != s {
			t.Fatalf("FileText of ParseFile(%q) = %q, %v", s, impl.FileText(f), ok)
		}
	}
}

func TestP6SectionsAreToldOnce(t *testing.T) {
	eachFile(t, func(t *testing.T, f impl.File, rows []row) {
		list := impl.SectionsOf(f)
		if len(onceEach(list)) != len(list) {
			t.Errorf("SectionsOf = %q", list)
		}
		for i, s := range list {
			if !impl.ValidName(s) && (i > 0 || s != "") {
				t.Errorf("SectionsOf = %q", list)
			}
		}
		if slices.Contains(list, "") != anyRow(rows, func(r row) bool { return r.isPair("", "") }) {
			t.Errorf("SectionsOf = %q", list)
		}
	})
}

func TestP7KeysAreToldOnceAndHaveValues(t *testing.T) {
	eachFile(t, func(t *testing.T, f impl.File, rows []row) {
		for _, s := range append(impl.SectionsOf(f), someSections...) {
			keys := impl.KeysOf(f, s)
			if len(onceEach(keys)) != len(keys) || len(keys) > 0 && !slices.Contains(impl.SectionsOf(f), s) {
				t.Errorf("KeysOf(%q) = %q", s, keys)
			}
			for _, key := range keys {
				if _, ok := impl.GetValue(f, s, key); !ok {
					t.Errorf("GetValue(%q, %q) fails", s, key)
				}
			}
		}
	})
}

func TestP8ValuesAreOfKeys(t *testing.T) {
	eachFile(t, func(t *testing.T, f impl.File, rows []row) {
		eachPlace(func(s, key string) {
			value, ok := impl.GetValue(f, s, key)
			at := impl.WhereIs(f, s, key)
			if ok != slices.Contains(impl.KeysOf(f, s), key) || ok != (at >= 0) || ok && f.Lines[at].Value != value || !ok && value != "" {
				t.Errorf("GetValue(%q, %q) = %q, %v; WhereIs = %d; KeysOf = %q", s, key, value, ok, at, impl.KeysOf(f, s))
			}
		})
	})
}

// checkOthers checks that all keys but one have the same values in both files.
func checkOthers(t *testing.T, f, g impl.File, s, key string) {
	t.Helper()
	eachPlace(func(s2, key2 string) {
		if s2 == s && key2 == key {
			return
		}
		was, had := impl.GetValue(f, s2, key2)
		if is, has := impl.GetValue(g, s2, key2); is != was || has != had {
			t.Errorf("GetValue(%q, %q) = %q, %v; it was %q, %v", s2, key2, is, has, was, had)
		}
	})
}

func TestP9WhatIsSetIsGot(t *testing.T) {
	eachFile(t, func(t *testing.T, f impl.File, rows []row) {
		eachPlace(func(s, key string) {
			for _, value := range []string{"", "9", strings.Repeat("v", 40)} {
				g, ok := impl.SetValue(f, s, key, value)
				if !ok && len(f.Lines) < 19 {
					t.Errorf("SetValue(%q, %q, %q) fails", s, key, value)
				}
				if !ok {
					continue
				}
				if got, has := impl.GetValue(g, s, key); !has || got != value {
					t.Errorf("GetValue(%q, %q) = %q, %v", s, key, got, has)
				}
				checkOthers(t, f, g, s, key)
			}
		})
	})
}

func TestP10SettingWhatIsThereChangesNothing(t *testing.T) {
	eachFile(t, func(t *testing.T, f impl.File, rows []row) {
		eachPlace(func(s, key string) {
			if value, has := impl.GetValue(f, s, key); has {
				if g, ok := impl.SetValue(f, s, key, value); !ok || !sameFile(f, g) {
					t.Errorf("SetValue(%q, %q, %q) = %q, %v", s, key, value, impl.FileText(g), ok)
				}
			}
			for _, value := range []string{"", "9"} {
				once, ok := impl.SetValue(f, s, key, value)
				if twice, ok2 := impl.SetValue(once, s, key, value); ok && (!ok2 || !sameFile(once, twice)) {
					t.Errorf("SetValue(%q, %q, %q) twice = %q, %v", s, key, value, impl.FileText(twice), ok2)
				}
			}
		})
	})
}

func TestP11NewKeysCanGoAgain(t *testing.T) {
	eachFile(t, func(t *testing.T, f impl.File, rows []row) {
		eachPlace(func(s, key string) {
			if _, has := impl.GetValue(f, s, key); has {
				return
			}
			g, ok := impl.SetValue(f, s, key, "9")
			if !ok {
				return
			}
			if h, ok := impl.DropKey(g, s, key); !ok || !impl.SameMeaning(f, h) || !impl.SameMeaning(h, f) || impl.SameMeaning(f, g) {
				t.Errorf("DropKey(%q, %q) = %q, %v", s, key, impl.FileText(h), ok)
			}
		})
	})
}

func TestP12DroppedKeysAreGone(t *testing.T) {
	eachFile(t, func(t *testing.T, f impl.File, rows []row) {
		eachPlace(func(s, key string) {
			g, ok := impl.DropKey(f, s, key)
			if _, has := impl.GetValue(f, s, key); ok != has {
				t.Errorf("DropKey(%q, %q) = %v", s, key, ok)
			}
			if !ok {
				return
			}
			if _, has := impl.GetValue(g, s, key); has {
				t.Errorf("DropKey(%q, %q) leaves one", s, key)
			}
			checkOthers(t, f, g, s, key)
		})
	})
}

func TestP13DroppedSectionsAreGone(t *testing.T) {
	eachFile(t, func(t *testing.T, f impl.File, rows []row) {
		for _, s := range someSections {
			g, ok := impl.DropSection(f, s)
			if ok != (s != "" && slices.Contains(impl.SectionsOf(f), s)) {
				t.Errorf("DropSection(%q) = %v", s, ok)
			}
			if ok && slices.Contains(impl.SectionsOf(g), s) {
				t.Errorf("DropSection(%q) leaves %q", s, impl.SectionsOf(g))
			}
			others := slices.DeleteFunc(slices.Clone(rows), func(r row) bool { return r.section == s })
			if ok && impl.FileText(g) != textOf(others) {
				t.Errorf("DropSection(%q) = %q", s, impl.FileText(g))
			}
			eachPlace(func(s2, key string) {
				was, had := impl.GetValue(f, s2, key)
				if is, has := impl.GetValue(g, s2, key); ok && s2 != s && (is != was || has != had) {
					t.Errorf("GetValue(%q, %q) = %q, %v after DropSection(%q)", s2, key, is, has, s)
				}
			})
		}
	})
}

func TestP14RenamedKeysBackAreAsBefore(t *testing.T) {
	eachFile(t, func(t *testing.T, f impl.File, rows []row) {
		eachPlace(func(s, key string) {
			for _, to := range append([]string{"new", "X", ""}, someKeys...) {
				g, ok := impl.RenameKey(f, s, key, to)
				if free := !slices.Contains(impl.KeysOf(f, s), to); ok != (impl.WhereIs(f, s, key) >= 0 && free && impl.ValidName(to)) {
					t.Errorf("RenameKey(%q, %q, %q) = %v", s, key, to, ok)
				}
				if !ok {
					continue
				}
				if h, ok := impl.RenameKey(g, s, to, key); !ok || !sameFile(f, h) {
					t.Errorf("RenameKey(%q, %q, %q) back = %q, %v", s, key, to, impl.FileText(h), ok)
				}
				was, _ := impl.GetValue(f, s, key)
				if is, has := impl.GetValue(g, s, to); !has || is != was {
					t.Errorf("GetValue(%q, %q) = %q, %v", s, to, is, has)
				}
			}
		})
	})
}

func TestP15RenamedSectionsBackAreAsBefore(t *testing.T) {
	eachFile(t, func(t *testing.T, f impl.File, rows []row) {
		for _, s := range someSections {
			for _, to := range append([]string{"new", "X"}, someSections...) {
				g, ok := impl.RenameSection(f, s, to)
				if had := slices.Contains(impl.SectionsOf(f), s); ok != (s != "" && had && impl.ValidName(to) && !slices.Contains(impl.SectionsOf(f), to)) {
					t.Errorf("RenameSection(%q, %q) = %v", s, to, ok)
				}
				if !ok {
					continue
				}
				if h, ok := impl.RenameSection(g, to, s); !ok || !sameFile(f, h) {
					t.Errorf("RenameSection(%q, %q) back = %q, %v", s, to, impl.FileText(h), ok)
				}
				if !slices.Equal(impl.KeysOf(f, s), impl.KeysOf(g, to)) || len(impl.KeysOf(g, s)) > 0 {
					t.Errorf("KeysOf(%q) = %q", to, impl.KeysOf(g, to))
				}
			}
		}
	})
}

func TestP16LinesOfKeysArePairs(t *testing.T) {
	eachFile(t, func(t *testing.T, f impl.File, rows []row) {
		eachPlace(func(s, key string) {
			at := impl.WhereIs(f, s, key)
			value, ok := impl.GetValue(f, s, key)
			if at < -1 || at >= len(f.Lines) || ok != (at >= 0) {
				t.Errorf("WhereIs(%q, %q) = %d", s, key, at)
				return
			}
			if at < 0 {
				return
			}
			if l := f.Lines[at]; l.Kind != impl.LnPair || l.Name != key || l.Value != value || rows[at].section != s {
				t.Errorf("WhereIs(%q, %q) = %d", s, key, at)
			}
		})
	})
}

func TestP17NotesStandAbove(t *testing.T) {
	eachFile(t, func(t *testing.T, f impl.File, rows []row) {
		eachPlace(func(s, key string) {
			at, notes := impl.WhereIs(f, s, key), impl.NotesOf(f, s, key)
			if len(notes) > max(at, 0) {
				t.Errorf("NotesOf(%q, %q) = %q", s, key, notes)
				return
			}
			for i, note := range notes {
				if l := f.Lines[at-len(notes)+i]; l.Kind != impl.LnNote || l.Value != note {
					t.Errorf("NotesOf(%q, %q) = %q", s, key, notes)
				}
			}
			if above := at - len(notes) - 1; above >= 0 && f.Lines[above].Kind == impl.LnNote {
				t.Errorf("NotesOf(%q, %q) = %q, and there are more", s, key, notes)
			}
		})
	})
}

func TestP18NewNotesAreTheLastOnes(t *testing.T) {
	eachFile(t, func(t *testing.T, f impl.File, rows []row) {
		eachPlace(func(s, key string) {
			at := impl.WhereIs(f, s, key)
			for _, note := range []string{"# new", "#", "#" + strings.Repeat(" ", 39)} {
				g, ok := impl.AddNote(f, s, key, note)
				if ok != (at >= 0 && len(f.Lines) < 20) {
					t.Errorf("AddNote(%q, %q) = %v", s, key, ok)
				}
				if !ok {
					continue
				}
				if want := append(impl.NotesOf(f, s, key), note); !slices.Equal(impl.NotesOf(g, s, key), want) {
					t.Errorf("NotesOf(%q, %q) = %q; want %q", s, key, impl.NotesOf(g, s, key), want)
				}
				if left := slices.Delete(slices.Clone(g.Lines), at, at+1); !slices.Equal(left, f.Lines) || !impl.SameMeaning(f, g) {
					t.Errorf("AddNote(%q, %q) = %q", s, key, impl.FileText(g))
				}
			}
			for _, note := range []string{"", "new", " # new", "#\n", "#" + strings.Repeat(" ", 40)} {
				if g, ok := impl.AddNote(f, s, key, note); ok || g.Lines != nil {
					t.Errorf("AddNote(%q, %q, %q) = %v, %v", s, key, note, g, ok)
				}
			}
		})
	})
}

func TestP19TidyFilesMeanTheSame(t *testing.T) {
	eachFile(t, func(t *testing.T, f impl.File, rows []row) {
		g := impl.TidyFile(f)
		if !impl.SameMeaning(f, g) || !impl.SameMeaning(g, f) || !sameFile(impl.TidyFile(g), g) || len(g.Lines) > len(f.Lines) {
			t.Errorf("TidyFile = %q", impl.FileText(g))
		}
		if !slices.Equal(impl.SectionsOf(f), impl.SectionsOf(g)) {
			t.Errorf("SectionsOf TidyFile = %q", impl.SectionsOf(g))
		}
		eachPlace(func(s, key string) {
			was, had := impl.GetValue(f, s, key)
			if is, has := impl.GetValue(g, s, key); is != was || has != had {
				t.Errorf("GetValue(%q, %q) of TidyFile = %q, %v", s, key, is, has)
			}
		})
		for _, l := range g.Lines {
			if l.Kind != impl.LnHead && l.Kind != impl.LnPair || l.Lead != "" || l.Tail != "" || l.Kind == impl.LnPair && l.Sep != " = " {
				t.Errorf("TidyFile has the line %+v", l)
			}
		}
	})
}
