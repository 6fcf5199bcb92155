package tests

import (
	"math/rand"
	"slices"
	"strings"
	"testing"

	"loop.example/settinglayers/impl"
)

func TestLimitOfEdits(t *testing.T) {
	if impl.MaxEdits != 40 {
		t.Error("the limit is not that of the document")
	}
}

// keyLines returns n lines of keys, from the one with the number from, as manyKeys has them.
func keyLines(from, n int) string {
	text := ""
	for _, e := range manyKeys("", from, n).Entries {
		text += e.Key + "=" + e.Value + "\n"
	}
	return text
}

func TestEditsBetweenFiles(t *testing.T) {
	for _, c := range []struct {
		f, g string
		want []string
	}{
		{"", "", nil},
		{"x=1\n", "  x  =  1  \n# n\n\n[a]\n", nil},
		{"x=1\nx=2\n", "x=2\n", nil},
		{"x=1\n", "x=2\n", []string{"x = 2"}},
		{"x=1\n", "", []string{"x -"}},
		{"", "x=1\n", []string{"x = 1"}},
		{"x=1\n", "x=\n", []string{"x = "}},
		{"x=\n", "[a]\n", []string{"x -"}},
		{"", "x=\n[a]\n[b]\n", []string{"x = "}},
		{"x=1\n[a]\nx=1\n", "[a]\nx=1\n[b]\nx=1\n", []string{"x -", "b.x = 1"}},
		{"x=1\ny=1\n[a]\nz=1\nx=1\n", "[a]\nx=2\nz=1\n[b]\ny=1\nx=-\n", []string{"x -", "y -", "a.x = 2", "b.y = 1", "b.x = -"}},
		{"[b]\nx=1\n[a]\nx=1\n[b]\ny=2\n", "q=1\n", []string{"b.x -", "b.y -", "a.x -", "q = 1"}},
		{"", "[b]\nx=1\n[a]\nx=1\n[b]\ny=2\nx=3\n", []string{"b.x = 3", "b.y = 2", "a.x = 1"}},
	} {
		checkEdits(t, "EditsBetween", impl.EditsBetween(parse(t, c.f), parse(t, c.g)), edits(c.want...))
	}
}

func TestEditsBetweenUpToTheLimit(t *testing.T) {
	other := strings.ReplaceAll(keyLines(0, 20), "=", "x=")
	f, g, want := parse(t, keyLines(0, 20)), parse(t, other), strings.ReplaceAll(other, "=", " = ")
	list := impl.EditsBetween(f, g)
	if len(list) != 40 || list[0] != (impl.Edit{Key: "ka", Drop: true}) || list[20] != (impl.Edit{Key: "kax", Value: "1"}) {
		t.Fatalf("EditsBetween = %+v", list)
	}
	if p, ok := impl.PatchLayers(impl.LayerOf(f), impl.LayerOf(g)); ok {
		t.Errorf("PatchLayers = %+v", p)
	}
	h, ok := impl.ApplyEdits(f, list)
	checkTurned(t, "ApplyEdits of 40 edits", h, ok, want, true)
	back, ok := impl.InvertEdits(f, list)
	if checkEdits(t, "InvertEdits of 40 edits", back, impl.EditsBetween(g, f)); !ok || len(back) != 40 {
		t.Errorf("InvertEdits = %+v, %v", back, ok)
	}
	h, ok = impl.MergeFiles(f, f, g)
	checkTurned(t, "MergeFiles by 40 edits", h, ok, want, true)
}

func TestApplyEditsInOrder(t *testing.T) {
	for _, c := range []struct {
		f    string
		list []string
		want string
	}{
		{"", nil, ""},
		{"  x=1 # \n\n# n\n[a]  \n", nil, "  x=1 # \n\n# n\n[a]  \n"},
		{"x=1\n", []string{"x -"}, ""},
		{"x=1\nx=2\n", []string{"x = 3"}, "x=1\nx=3\n"},
		{"x=1\nx=2\n", []string{"x -"}, ""},
		{"x=1\n", []string{"x = 2", "x = 3", "x -", "x = 4", "x = 5"}, "x = 5\n"},
		{" x= 1 \n", []string{"x = 2", "x = 1"}, " x= 1 \n"},
		{" x= 1 \n", []string{"x = ", "x = 1"}, " x= 1\n"},
		{" x= 1 \ny=2\n", []string{"x -", "x = 1"}, "y=2\nx = 1\n"},
		{"", []string{"a.x = 1", "x = 1", "b.x = 1", "a.y = 1"}, "x = 1\n[a]\nx = 1\ny = 1\n[b]\nx = 1\n"},
		{"", []string{"a.x = 1", "a.x -"}, "[a]\n"},
		{"# n\n[a]\n# m\nx=1\n", []string{"a.x -", "a.x = 2"}, "# n\n[a]\nx = 2\n# m\n"},
		{"base=1\n", []string{"base = 2", "base.base = 3"}, "base=2\n[base]\nbase = 3\n"},
	} {
		g, ok := impl.ApplyEdits(parse(t, c.f), edits(c.list...))
		checkTurned(t, "ApplyEdits of "+strings.Join(c.list, ", "), g, ok, c.want, true)
	}
	// A key that is not there cannot be dropped, wherever in the list that is.
	for _, list := range [][]string{{"y -"}, {"a.x -"}, {"x -", "x -"}, {"x = 2", "y -"}, {"y -", "y = 1"}, {"y = 1", "y -", "y -", "y = 1"}, {"b.x = 1", "a.x -"}} {
		g, ok := impl.ApplyEdits(parse(t, "x=1\n[a]\ny=1\n"), edits(list...))
		checkTurned(t, "ApplyEdits of "+strings.Join(list, ", "), g, ok, "", false)
		back, ok := impl.InvertEdits(parse(t, "x=1\n[a]\ny=1\n"), edits(list...))
		if checkEdits(t, "InvertEdits of "+strings.Join(list, ", "), back, nil); ok {
			t.Error("InvertEdits does not fail")
		}
	}
}

func TestApplyEditsUpToTheLimits(t *testing.T) {
	full := keyLines(0, 20)
	for _, c := range []struct {
		f    string
		list []string
		want string
		ok   bool
	}{
		{full, []string{"ka = 2"}, strings.Replace(full, "1", "2", 1), true},
		{full, []string{"x = 1"}, "", false},
		{full, []string{"x = 1", "ka -"}, "", false},
		{full, []string{"ka -", "x = 1"}, keyLines(1, 19) + "x = 1\n", true},
		{full, []string{"ka -", "a.x = 1"}, "", false},
		{full, []string{"ka -", "kb -", "a.x = 1"}, keyLines(2, 18) + "[a]\nx = 1\n", true},
		{keyLines(0, 19), []string{"x = 1"}, keyLines(0, 19) + "x = 1\n", true},
		{keyLines(0, 19), []string{"x = 1", "y = 1"}, "", false},
		{keyLines(0, 18), []string{"a.x = 1"}, keyLines(0, 18) + "[a]\nx = 1\n", true},
		{keyLines(0, 18), []string{"a.x = 1", "a.y = 1"}, "", false},
	} {
		g, ok := impl.ApplyEdits(parse(t, c.f), edits(c.list...))
		checkTurned(t, "ApplyEdits of "+strings.Join(c.list, ", "), g, ok, c.want, c.ok)
		back, ok := impl.InvertEdits(parse(t, c.f), edits(c.list...))
		if ok != c.ok || !ok && len(back) != 0 {
			t.Errorf("InvertEdits of %q = %+v, %v", c.list, back, ok)
		}
	}
	for n, want := range map[int]bool{0: true, 1: true, 39: true, 40: true, 41: false, 42: false, 1000: false} {
		list := slices.Repeat(edits("x = 2"), n)
		g, ok := impl.ApplyEdits(parse(t, "x=2\n"), list)
		checkTurned(t, "ApplyEdits of many edits", g, ok, "x=2\n", want)
		back, ok := impl.InvertEdits(parse(t, "x=2\n"), list)
		if checkEdits(t, "InvertEdits of many edits", back, nil); ok != want {
			t.Errorf("InvertEdits of %d edits = %v", n, ok)
		}
		if left := impl.SquashEdits(list); len(left) != min(1, n) && want || len(left) > 0 && !want {
			t.Errorf("SquashEdits of %d edits = %+v", n, left)
		}
	}
}

func TestInvertEditsInOrder(t *testing.T) {
	for _, c := range []struct {
		f          string
		list, want []string
	}{
		{"", nil, nil},
		{"x=1\n", []string{"x = 1"}, nil},
		{"x=1\n", []string{"x = 2"}, []string{"x = 1"}},
		{"x=1\nx=2\n", []string{"x -"}, []string{"x = 2"}},
		{"", []string{"x = 1"}, []string{"x -"}},
		{"x=1\n", []string{"x = 2", "x -", "x = 1"}, nil},
		{"x=1\ny=2\n[a]\nx=3\n", []string{"a.x -", "b.x = 1", "y = 4", "b.y = 1", "b.x -"}, []string{"b.y -", "y = 2", "a.x = 3"}},
		{"[b]\nx=1\n[a]\nx=1\n", []string{"x = 2", "a.x -", "b.x -"}, []string{"x -", "b.x = 1", "a.x = 1"}},
	} {
		back, ok := impl.InvertEdits(parse(t, c.f), edits(c.list...))
		if checkEdits(t, "InvertEdits of "+strings.Join(c.list, ", "), back, edits(c.want...)); !ok {
			t.Errorf("InvertEdits of %q fails", c.list)
		}
	}
}

func TestSquashEditsInOrder(t *testing.T) {
	for _, c := range [][2][]string{
		{nil, nil},
		{{"x = 1"}, {"x = 1"}},
		{{"x -"}, {"x -"}},
		{{"x = 1", "x -"}, {"x -"}},
		{{"x -", "x = 1"}, {"x = 1"}},
		{{"x = 1", "x = 1"}, {"x = 1"}},
		{{"x = 1", "y = 1", "x = 2"}, {"y = 1", "x = 2"}},
		{{"x = 1", "a.x = 1", "b.x = 1", "x -"}, {"a.x = 1", "b.x = 1", "x -"}},
		{{"y = 1", "x = 1", "z -", "y = 2", "z = 3", "a.z = 4"}, {"x = 1", "y = 2", "z = 3", "a.z = 4"}},
		{{"c = 1", "b = 1", "a = 1", "a.a = 1"}, {"c = 1", "b = 1", "a = 1", "a.a = 1"}},
	} {
		checkEdits(t, "SquashEdits", impl.SquashEdits(edits(c[0]...)), edits(c[1]...))
	}
	list := append(manyEdits("a", 0, 20), manyEdits("b", 0, 20)...)
	checkEdits(t, "SquashEdits of 40 edits", impl.SquashEdits(list), list)
	checkEdits(t, "SquashEdits of 41 edits", impl.SquashEdits(append(list, edits("x = 1")...)), nil)
	checkEdits(t, "SquashEdits of 41 edits of one place", impl.SquashEdits(append(list, list[0])), nil)
}

func TestRevertKeyOfFiles(t *testing.T) {
	f, g := "# top\nx = 1 \n[a]\n# n\ny = 2 \n  z=3\ny = 4 \n", "[a]\n y=5\n[b]\nx = 6\n[a]\ny =\nz= 3\n"
	for _, c := range []struct{ s, key, want string }{
		{"", "x", "# top\n[a]\n# n\ny = 2 \n  z=3\ny = 4 \n"},
		{"a", "y", "# top\nx = 1 \n[a]\n# n\ny = 2 \n  z=3\ny = \n"},
		{"b", "x", f + "[b]\nx = 6\n"},
		{"a", "z", f}, {"a", "x", f}, {"b", "y", f}, {"", "y", f}, {"c", "x", f}, {"b", "", f},
		{"", "", f}, {"A", "x", f}, {"a", "X", f}, {"a", "z ", f}, {"a.z", "", f}, {"a", "abcdefghi", f}, {"abcdefghi", "x", f}, {"\xff", "\n", f},
	} {
		r, ok := impl.RevertKey(parse(t, f), parse(t, g), c.s, c.key)
		checkTurned(t, "RevertKey of "+c.s+"."+c.key, r, ok, c.want, true)
	}
	r, ok := impl.RevertKey(parse(t, f), parse(t, ""), "a", "y")
	checkTurned(t, "RevertKey of a key that is there twice", r, ok, "# top\nx = 1 \n[a]\n# n\n  z=3\n", true)
	full := keyLines(0, 20)
	for _, c := range []struct {
		f, g, s, want string
		ok            bool
	}{
		{full, "x=1\n", "", "", false}, {full, "[a]\nx=1\n", "a", "", false}, {full, "\n", "a", full, true}, {keyLines(0, 19), "[a]\nx=1\n", "a", "", false},
		{keyLines(0, 19), "x=1\n", "", keyLines(0, 19) + "x = 1\n", true}, {keyLines(0, 18), "[a]\nx=1\n", "a", keyLines(0, 18) + "[a]\nx = 1\n", true},
	} {
		r, ok := impl.RevertKey(parse(t, c.f), parse(t, c.g), c.s, "x")
		checkTurned(t, "RevertKey of "+c.s, r, ok, c.want, c.ok)
	}
	r, ok = impl.RevertKey(parse(t, full), parse(t, "kb=7\n"), "", "kb")
	checkTurned(t, "RevertKey in 20 lines", r, ok, strings.Replace(full, "kb=1", "kb=7", 1), true)
}

func TestMergeFilesWithNotes(t *testing.T) {
	base := "# top\nk = 1\n[a]\nx = 1\n\n# y\ny = 2\n"
	a := "# mine\n\nk = 1 \n[a]\n  x=3\n# y\ny =  2\n# end\n"
	for _, c := range []struct {
		b, want string
		ok      bool
	}{
		{base, a, true},
		{a, a, true},
		{"", "", false},
		{"[a]\nx=1\n", "# mine\n\n[a]\n  x=3\n# y\n# end\n", true},
		{"k=9\n[a]\nx=3\ny=2\n", strings.Replace(a, "k = 1 ", "k = 9 ", 1), true},
		{"k=1\n[a]\nx=4\ny=2\n", "", false},
		{"k=1\n[a]\ny=2\n", "", false},
		{"k=1\n[a]\nx=1\ny=\n[b]\nz=7\n", strings.Replace(a, "y =  2", "y =  ", 1) + "[b]\nz = 7\n", true},
		{"q=5\n[a]\ny=2\nx=1\nw=6\n", "q = 5\n# mine\n\n[a]\n  x=3\n# y\ny =  2\nw = 6\n# end\n", true},
	} {
		m, ok := impl.MergeFiles(parse(t, base), parse(t, a), parse(t, c.b))
		checkTurned(t, "MergeFiles with "+c.b, m, ok, c.want, c.ok)
	}
	for _, c := range [][4]string{
		{"x=1\n", "# n\n", "\n", "# n\n"},
		{"x=1\n", "x=2\n", "  x = 2 \n", "x=2\n"},
		{"", "[a]\n", "x=1\n", "x = 1\n[a]\n"},
		{"", "x=1\n", "x=1\n[a]\n", "x=1\n"},
		{"x=1\nx=2\n", "x=2\n", "x=3\n", "x=3\n"},
		{"x=1\ny=1\n", "x=2\ny=1\n", "x=1\ny=2\n", "x=2\ny=2\n"},
	} {
		m, ok := impl.MergeFiles(parse(t, c[0]), parse(t, c[1]), parse(t, c[2]))
		checkTurned(t, "MergeFiles of "+c[0], m, ok, c[3], true)
	}
}

func TestMergeFilesUpToTheLimit(t *testing.T) {
	for _, c := range []struct {
		base, a, b, want string
		ok               bool
	}{
		{"", keyLines(0, 10), keyLines(10, 10), keyLines(0, 10) + strings.ReplaceAll(keyLines(10, 10), "=", " = "), true},
		{"", keyLines(0, 10), keyLines(10, 11), "", false},
		{"", keyLines(0, 10) + "# n\n", keyLines(10, 10), "", false},
		{"", keyLines(0, 18), "[a]\nx=1\n", keyLines(0, 18) + "[a]\nx = 1\n", true},
		{"", keyLines(0, 19), "[a]\nx=1\n", "", false},
		{"", keyLines(0, 18) + "\n", "[a]\nx=1\n", "", false},
		{keyLines(0, 2), keyLines(0, 20), "[a]\nx=1\n", keyLines(2, 18) + "[a]\nx = 1\n", true},
	} {
		m, ok := impl.MergeFiles(parse(t, c.base), parse(t, c.a), parse(t, c.b))
		checkTurned(t, "MergeFiles", m, ok, c.want, c.ok)
	}
}

func TestEditAllPairs(t *testing.T) {
	n, long := 0, 0
	eachFilePair(t, func(t *testing.T, f, g fileOf) {
		want := wantEdits(wantEntries(f.rows), wantEntries(g.rows))
		got := impl.EditsBetween(f.File, g.File)
		checkEdits(t, "EditsBetween", got, want)
		text, can := wantApplied(f.rows, want)
		h, ok := impl.ApplyEdits(f.File, got)
		if checkTurned(t, "ApplyEdits", h, ok, text, can); !ok {
			long++
		}
		n += len(got)
		eachPlace(func(s, key string) {
			text, can := wantReverted(f.rows, g.rows, s, key)
			r, ok := impl.RevertKey(f.File, g.File, s, key)
			checkTurned(t, "RevertKey of "+s+"."+key, r, ok, text, can)
		})
	})
	enough(t, "edits", n, 5000)
	enough(t, "files have no room", long, 20)
}

func TestEditAllFiles(t *testing.T) {
	fail, done := 0, 0
	eachEdits(t, func(t *testing.T, f fileOf, list []impl.Edit) {
		text, can := wantApplied(f.rows, list)
		g, ok := impl.ApplyEdits(f.File, list)
		checkTurned(t, "ApplyEdits", g, ok, text, can)
		var want []impl.Edit
		if can {
			want = wantEdits(wantEntries(rowsOf(t, text)), wantEntries(f.rows))
			done += len(list)
		} else {
			fail++
		}
		back, ok := impl.InvertEdits(f.File, list)
		if checkEdits(t, "InvertEdits", back, want); ok != can {
			t.Errorf("InvertEdits = %v", ok)
		}
		checkEdits(t, "SquashEdits", impl.SquashEdits(list), wantSquashed(list))
	})
	enough(t, "lists of edits fail", fail, 200)
	enough(t, "edits", done, 5000)
}

func TestMergeAllFiles(t *testing.T) {
	conflicts, done := 0, 0
	eachFileThree(t, func(t *testing.T, base, a, b fileOf) {
		text, can := wantMergedFile(base.rows, a.rows, b.rows)
		m, ok := impl.MergeFiles(base.File, a.File, b.File)
		if checkTurned(t, "MergeFiles", m, ok, text, can); !ok {
			conflicts++
		} else if !sameFile(m, a.File) {
			done++
		}
	})
	enough(t, "merges fail", conflicts, 1000)
	enough(t, "files are merged", done, 1000)
}

func TestEditsThatAreNotValid(t *testing.T) {
	files := filesOf(t, "", "x=1\n[a]\nx=1\n", "[abc]\nother=1\n")
	good := edits("abc.other = 1", "x = 1", "x -")
	for _, e := range badEdits() {
		for _, f := range files {
			for _, list := range [][]impl.Edit{{e}, append(good[:2:2], e), append([]impl.Edit{e}, good...), append([]impl.Edit{good[0], e}, good[1:]...), {e, e}} {
				g, ok := impl.ApplyEdits(f.File, list)
				checkTurned(t, "ApplyEdits", g, ok, "", false)
				back, ok := impl.InvertEdits(f.File, list)
				if checkEdits(t, "InvertEdits", back, nil); ok {
					t.Error("InvertEdits does not fail")
				}
				checkEdits(t, "SquashEdits", impl.SquashEdits(list), nil)
				if t.Failed() {
					t.Fatalf("with the edits %+v", list)
				}
			}
		}
	}
}

func TestEditsOfOtherFiles(t *testing.T) {
	good := parse(t, "[a]\nx=1\n")
	for _, bad := range badFiles(t) {
		for _, other := range []impl.File{good, {}, bad, parse(t, "[a]\nx=2\n")} {
			checkEdits(t, "EditsBetween", impl.EditsBetween(bad, other), nil)
			checkEdits(t, "EditsBetween", impl.EditsBetween(other, bad), nil)
			for _, p := range []spot{{"a", "x"}, {"a", "y"}, {"", "x"}, {"b", "x"}, {"", ""}} {
				r, ok := impl.RevertKey(bad, other, p.section, p.key)
				checkTurned(t, "RevertKey", r, ok, "", false)
				r, ok = impl.RevertKey(other, bad, p.section, p.key)
				checkTurned(t, "RevertKey", r, ok, "", false)
			}
			for _, three := range [][3]impl.File{{bad, other, other}, {other, bad, other}, {other, other, bad}, {bad, bad, bad}, {good, bad, bad}, {bad, good, {}}, {{}, good, bad}, {good, bad, {}}} {
				m, ok := impl.MergeFiles(three[0], three[1], three[2])
				checkTurned(t, "MergeFiles", m, ok, "", false)
			}
		}
		for _, list := range [][]impl.Edit{nil, edits("a.x = 2"), edits("a.x -"), edits("b.y = 1")} {
			g, ok := impl.ApplyEdits(bad, list)
			checkTurned(t, "ApplyEdits", g, ok, "", false)
			back, ok := impl.InvertEdits(bad, list)
			if checkEdits(t, "InvertEdits", back, nil); ok {
				t.Error("InvertEdits does not fail")
			}
		}
		if t.Failed() {
			t.Fatalf("with the file %+v", bad)
		}
	}
}

// editedFiles returns what each function of edits that makes a file makes of two files.
func editedFiles(t *testing.T, f, g impl.File) []impl.File {
	var list []impl.File
	add := func(h impl.File, ok bool) {
		if !ok || len(h.Lines) == 0 {
			t.Error("a function makes nothing")
		}
		list = append(list, h)
	}
	add(impl.ApplyEdits(f, nil))
	add(impl.ApplyEdits(f, edits("x = 9", "a.y -", "b.x = 1")))
	add(impl.ApplyEdits(f, edits("x = 1")))
	add(impl.ApplyEdits(f, edits("a.y -")))
	for _, p := range []spot{{"", "x"}, {"a", "y"}, {"a", "z"}, {"q", "q"}, {"a", "x"}} {
		add(impl.RevertKey(f, g, p.section, p.key))
	}
	add(impl.MergeFiles(f, f, f))
	add(impl.MergeFiles(f, g, f))
	add(impl.MergeFiles(f, f, g))
	return list
}

func TestEditsShareNoMemory(t *testing.T) {
	wholeF := append(parse(t, "x=1\n[a]\n# n\nx=2\ny=\n").Lines, make([]impl.Line, 8)...)
	wholeG := append(parse(t, "x=5\n[a]\nx=2\n[a]\nz=1\n").Lines, make([]impl.Line, 8)...)
	f, g := impl.File{Lines: wholeF[:5]}, impl.File{Lines: wholeG[:5]}
	beforeF, beforeG := slices.Clone(wholeF), slices.Clone(wholeG)
	wholeList := append(edits("x = 2", "a.y -", "x = 3"), make([]impl.Edit, 8)...)
	list, beforeList := wholeList[:3], slices.Clone(wholeList)
	for range 2 {
		for i, h := range editedFiles(t, f, g) {
			for j := range h.Lines[:cap(h.Lines)] {
				h.Lines[:cap(h.Lines)][j].Value = "changed"
			}
			if !slices.Equal(wholeF, beforeF) || !slices.Equal(wholeG, beforeG) {
				t.Fatalf("the file of function %d shares memory with one before", i)
			}
		}
		between, squashed := impl.EditsBetween(f, g), impl.SquashEdits(list)
		back, ok := impl.InvertEdits(f, list)
		one := impl.SquashEdits(list[:2])
		checkEdits(t, "EditsBetween", between, edits("a.y -", "x = 5", "a.z = 1"))
		checkEdits(t, "SquashEdits", squashed, edits("a.y -", "x = 3"))
		checkEdits(t, "SquashEdits", one, edits("x = 2", "a.y -"))
		if checkEdits(t, "InvertEdits", back, edits("x = 1", "a.y = ")); !ok {
			t.Error("InvertEdits fails")
		}
		for _, made := range [][]impl.Edit{between, squashed, back, one} {
			for j := range made[:cap(made)] {
				made[:cap(made)][j].Key = "changed"
			}
		}
		if !slices.Equal(wholeList, beforeList) {
			t.Fatalf("the edits are %+v", wholeList)
		}
	}
}

func TestTextsOfPlaces(t *testing.T) {
	for told, r := range map[string]impl.Ref{
		"x": {Key: "x"}, "a.x": {Section: "a", Key: "x"}, "x.x": {Section: "x", Key: "x"}, "base": {Key: "base"}, "base.base": {Section: "base", Key: "base"}, "abcdefgh": {Key: "abcdefgh"}, "abcdefgh.abcdefgh": {Section: "abcdefgh", Key: "abcdefgh"}, "z.a": {Section: "z", Key: "a"},
	} {
		if got := impl.PlaceText(r); got != told {
			t.Errorf("PlaceText(%+v) = %q; want %q", r, got, told)
		}
		if got, ok := impl.ParsePlace(told); !ok || got != r {
			t.Errorf("ParsePlace(%q) = %+v, %v; want %+v", told, got, ok, r)
		}
	}
	noNames := append(slices.DeleteFunc(otherSections(), func(s string) bool { return s == "a.b" }), "")
	for _, s := range append(noNames, ".", ".x", "x.", "a.b.c", "a..x", "..x", "a.x.", "abcdefghi", "abcdefghi.x", "a.abcdefghi", "A.x", "a.X", "a:x", "a x", "a. x", "a .x", "x\n", "a.x\n", "a.é", "a.x\xff", "[a]x", "-", "a.-", strings.Repeat("a", 1000)) {
		if r, ok := impl.ParsePlace(s); ok || r != (impl.Ref{}) {
			t.Errorf("ParsePlace(%q) = %+v, %v", s, r, ok)
		}
	}
	for _, s := range otherSections() {
		for _, r := range []impl.Ref{{Key: s}, {Section: s}, {Section: s, Key: "x"}, {Section: "a", Key: s}, {Section: s, Key: s}, {Section: "a"}, {}} {
			if got := impl.PlaceText(r); got != "" {
				t.Errorf("PlaceText(%+v) = %q", r, got)
			}
		}
	}
}

func TestTextsOfEdits(t *testing.T) {
	v40 := strings.Repeat("v", 40)
	for told, e := range map[string]impl.Edit{
		"x -": {Key: "x", Drop: true}, "a.x -": {Section: "a", Key: "x", Drop: true}, "x = ": {Key: "x"}, "x = 1": {Key: "x", Value: "1"}, "a.x = ": {Section: "a", Key: "x"}, "a.x = -": {Section: "a", Key: "x", Value: "-"}, "x = =": {Key: "x", Value: "="}, "x = = 1": {Key: "x", Value: "= 1"},
		"x = a  b": {Key: "x", Value: "a  b"}, "x = a.x -": {Key: "x", Value: "a.x -"}, "abcdefgh.abcdefgh = " + v40: {Section: "abcdefgh", Key: "abcdefgh", Value: v40}, "abcdefgh.abcdefgh -": {Section: "abcdefgh", Key: "abcdefgh", Drop: true}, "base = ~!#": {Key: "base", Value: "~!#"},
	} {
		if got := impl.EditText(e); got != told {
			t.Errorf("EditText(%+v) = %q; want %q", e, got, told)
		}
		if got, ok := impl.ParseEdit(told); !ok || got != e {
			t.Errorf("ParseEdit(%q) = %+v, %v; want %+v", told, got, ok, e)
		}
	}
	for _, s := range []string{
		"", " ", "-", " -", "= 1", " = 1", "x", "a.x", "x ", "x  -", " x -", "x - ", "x -1", "x - 1", "x--", "x-", "x +", "x + 1", "x +1", "x=1", "x =", "x =1", "x= 1", "x  = 1", "x =  1", "x = 1 ", "x =  ", "x = \n", "x = 1\n", "x -\n", "x = \t", "x = é", "x = \xff", "x == 1", "x = " + v40 + "v", "x - = 1", "x\t-", "x\u00a0-",
		"X -", "X = 1", ".x -", "a. -", "a.b.c -", "a.b.c = 1", "a:x -", "abcdefghi -", "abcdefghi.x = 1", "a.abcdefghi = 1", "A.x = 1", "é -", ". -", ". = 1", "a .x = 1", "a. x = 1",
	} {
		if e, ok := impl.ParseEdit(s); ok || e != (impl.Edit{}) {
			t.Errorf("ParseEdit(%q) = %+v, %v", s, e, ok)
		}
	}
	for _, e := range badEdits() {
		if got := impl.EditText(e); got != "" {
			t.Errorf("EditText(%+v) = %q", e, got)
		}
	}
}

// TestParseAllShortTexts holds the readers of places and edits against the patterns of these tests.
func TestParseAllShortTexts(t *testing.T) {
	good, random := 0, rand.New(rand.NewSource(12))
	list := append(upTo(5, []string{"a", ".", " ", "-", "=", "= ", "A", "\n", "abcdefgh"}), upTo(4, []string{"a.x", "x", " ", " -", " = ", "1", "é", "\x00", "b.", strings.Repeat("v", 40)})...)
	for range 20000 {
		s := []byte(impl.EditText(someEdits(random, nil, 1, false)[0]))
		s[random.Intn(len(s))] = byte(random.Intn(256))
		list = append(list, string(s))
	}
	for _, s := range list {
		r, ok := impl.ParsePlace(s)
		if want, has := wantPlace(s); r != want || ok != has {
			t.Fatalf("ParsePlace(%q) = %+v, %v; want %+v, %v", s, r, ok, want, has)
		}
		e, ok := impl.ParseEdit(s)
		if want, has := wantEdit(s); e != want || ok != has {
			t.Fatalf("ParseEdit(%q) = %+v, %v; want %+v, %v", s, e, ok, want, has)
		} else if has {
			good++
		}
	}
	enough(t, "texts of edits", good, 1000)
}

func TestTextsOfAllParts(t *testing.T) {
	parts := upTo(2, []string{"a", "z", "base", ".", " ", "-", "=", "A", "\n", "abcdefgh"})
	for _, s := range parts {
		for _, key := range parts {
			r := impl.Ref{Section: s, Key: key}
			if got, want := impl.PlaceText(r), wantPlaceText(r); got != want {
				t.Fatalf("PlaceText(%+v) = %q; want %q", r, got, want)
			}
			for _, value := range []string{"", "1", " ", "a b", "a ", "-", strings.Repeat("v", 41)} {
				for _, drop := range []bool{false, true} {
					e := impl.Edit{Section: s, Key: key, Drop: drop, Value: value}
					if got, want := impl.EditText(e), wantEditText(e); got != want {
						t.Fatalf("EditText(%+v) = %q; want %q", e, got, want)
					}
				}
			}
		}
	}
}
