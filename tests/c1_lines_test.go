package tests

import (
	"slices"
	"strings"
	"testing"

	"loop.example/settinglayers/impl"
)

func TestLimits(t *testing.T) {
	if impl.MaxName != 8 || impl.MaxValue != 40 || impl.MaxSpaces != 4 || impl.MaxLines != 20 {
		t.Error("limits are not those of the document")
	}
	if impl.LnBlank != 0 || impl.LnNote != 1 || impl.LnHead != 2 || impl.LnPair != 3 {
		t.Error("kinds of lines are not those of the document")
	}
}

func TestValidName(t *testing.T) {
	for _, s := range []string{"a", "z", "m", "abc", "base", "abcdefgh", "zzzzzzzz"} {
		if !impl.ValidName(s) {
			t.Errorf("ValidName(%q) = false", s)
		}
	}
	for _, s := range []string{"", "abcdefghi", strings.Repeat("a", 1000), "A", "aB", "a1", "a b", " a", "a ", "a_b", "a-b", "`", "{", "a`", "a{", "é", "a\x00", "\xff", "a\xff", "a\n"} {
		if impl.ValidName(s) {
			t.Errorf("ValidName(%q) = true", s)
		}
	}
	for b := 0; b < 256; b++ {
		s := string([]byte{byte(b)})
		if got, want := impl.ValidName(s), b >= 'a' && b <= 'z'; got != want {
			t.Errorf("ValidName(%q) = %v", s, got)
		}
	}
}

func TestValidValue(t *testing.T) {
	for _, s := range []string{"", "a", "~", "!", "a b", "a  b", "a = b", "#", "[a]", "$${a:b}", strings.Repeat("v", 40), "v" + strings.Repeat(" ", 38) + "v"} {
		if !impl.ValidValue(s) {
			t.Errorf("ValidValue(%q) = false", s)
		}
	}
	for _, s := range []string{" ", "  ", " a", "a ", " a ", "a\tb", "a\n", "\x7f", "\x1f", "é", "aéb", "\xff", "a\x80b", strings.Repeat("v", 41), strings.Repeat("v", 1000)} {
		if impl.ValidValue(s) {
			t.Errorf("ValidValue(%q) = true", s)
		}
	}
	for b := 0; b < 256; b++ {
		s := "a" + string([]byte{byte(b)}) + "a"
		if got, want := impl.ValidValue(s), b >= ' ' && b <= '~'; got != want {
			t.Errorf("ValidValue(%q) = %v", s, got)
		}
	}
}

// goodLines are lines at their limits, with their texts.
func goodLines() map[string]impl.Line {
	v40, n8, s4 := strings.Repeat("v", 40), "abcdefgh", "    "
	return map[string]impl.Line{
		"":                                 {},
		s4:                                 {Kind: impl.LnBlank, Lead: s4},
		"#":                                {Kind: impl.LnNote, Value: "#"},
		"##":                               {Kind: impl.LnNote, Value: "##"},
		s4 + "# a  ":                       {Kind: impl.LnNote, Lead: s4, Value: "# a  "},
		"# x = 1":                          {Kind: impl.LnNote, Value: "# x = 1"},
		"#" + v40[1:]:                      {Kind: impl.LnNote, Value: "#" + v40[1:]},
		"#" + strings.Repeat(" ", 39):      {Kind: impl.LnNote, Value: "#" + strings.Repeat(" ", 39)},
		"[a]":                              {Kind: impl.LnHead, Name: "a"},
		s4 + "[" + n8 + "]" + s4:           {Kind: impl.LnHead, Lead: s4, Name: n8, Tail: s4},
		"x=":                               {Kind: impl.LnPair, Name: "x", Sep: "="},
		"x =    ":                          {Kind: impl.LnPair, Name: "x", Sep: " =    "},
		"x==":                              {Kind: impl.LnPair, Name: "x", Sep: "=", Value: "="},
		"x = = =":                          {Kind: impl.LnPair, Name: "x", Sep: " = ", Value: "= ="},
		"x =#":                             {Kind: impl.LnPair, Name: "x", Sep: " =", Value: "#"},
		"x= [a] ":                          {Kind: impl.LnPair, Name: "x", Sep: "= ", Value: "[a]", Tail: " "},
		s4 + n8 + s4 + "=" + s4 + v40 + s4: {Kind: impl.LnPair, Lead: s4, Name: n8, Sep: s4 + "=" + s4, Value: v40, Tail: s4},
		s4 + n8 + s4 + "=" + s4:            {Kind: impl.LnPair, Lead: s4, Name: n8, Sep: s4 + "=" + s4},
		"x = a     b":                      {Kind: impl.LnPair, Name: "x", Sep: " = ", Value: "a     b"},
	}
}

// badLines are lines that are not valid, each for one reason.
func badLines() []impl.Line {
	v41, n9, s5 := strings.Repeat("v", 41), "abcdefghi", "     "
	bad := []impl.Line{
		{Kind: 4}, {Kind: -1}, {Kind: 7, Lead: " "}, {Kind: 4, Name: "y", Sep: "=", Value: "1"}, {Kind: 6, Name: "b"},
		{Kind: impl.LnNote}, {Kind: impl.LnNote, Value: "a"}, {Kind: impl.LnNote, Value: " #"}, {Kind: impl.LnNote, Value: "#\t"},
		{Kind: impl.LnNote, Value: "#é"}, {Kind: impl.LnNote, Value: "#\n"}, {Kind: impl.LnNote, Value: "#" + v41[1:]}, {Kind: impl.LnNote, Value: "#\x7f"},
		{Kind: impl.LnHead}, {Kind: impl.LnHead, Name: "A"}, {Kind: impl.LnHead, Name: n9},
		{Kind: impl.LnHead, Name: "b", Tail: s5}, {Kind: impl.LnHead, Name: "b", Tail: "\t"}, {Kind: impl.LnHead, Name: "b", Tail: "#"},
		{Kind: impl.LnPair}, {Kind: impl.LnPair, Name: "y"}, {Kind: impl.LnPair, Sep: "=", Value: "1"}, {Kind: impl.LnPair, Name: n9, Sep: "="},
		{Kind: impl.LnPair, Name: "Y", Sep: "=", Value: "1"}, {Kind: impl.LnPair, Name: "y", Sep: " ", Value: "1"}, {Kind: impl.LnPair, Name: "y", Sep: "==", Value: "1"},
		{Kind: impl.LnPair, Name: "y", Sep: s5 + "=", Value: "1"}, {Kind: impl.LnPair, Name: "y", Sep: "=" + s5, Value: "1"}, {Kind: impl.LnPair, Name: "y", Sep: ":", Value: "1"},
		{Kind: impl.LnPair, Name: "y", Sep: "=\t", Value: "1"}, {Kind: impl.LnPair, Name: "y", Sep: "\t=", Value: "1"},
		{Kind: impl.LnPair, Name: "y", Sep: "=", Value: v41}, {Kind: impl.LnPair, Name: "y", Sep: "=", Value: " 1"}, {Kind: impl.LnPair, Name: "y", Sep: "=", Value: "1 "},
		{Kind: impl.LnPair, Name: "y", Sep: "=", Value: "1\n2"}, {Kind: impl.LnPair, Name: "y", Sep: "=", Value: "1", Tail: s5}, {Kind: impl.LnPair, Name: "y", Sep: "=", Value: "1", Tail: "."},
		{Kind: impl.LnPair, Name: "y", Sep: "=", Tail: " "},
	}
	for _, l := range []impl.Line{{}, {Kind: impl.LnNote, Value: "#"}, {Kind: impl.LnHead, Name: "b"}, {Kind: impl.LnPair, Name: "y", Sep: "=", Value: "1"}} {
		for _, lead := range []string{s5, "\t", ".", "\n"} {
			m := l
			m.Lead = lead
			bad = append(bad, m)
		}
		bad = append(bad, partsTooMany(l)...)
	}
	return bad
}

// partsTooMany returns the line with each one of the parts that its kind does not have.
func partsTooMany(l impl.Line) []impl.Line {
	var bad []impl.Line
	if l.Kind != impl.LnHead && l.Kind != impl.LnPair {
		m, n := l, l
		m.Name, n.Tail = "y", " "
		bad = append(bad, m, n)
	}
	if l.Kind != impl.LnPair {
		m := l
		m.Sep = "="
		bad = append(bad, m)
	}
	if l.Kind == impl.LnBlank || l.Kind == impl.LnHead {
		m, n := l, l
		m.Value, n.Value = "1", "#"
		bad = append(bad, m, n)
	}
	return bad
}

func TestValidFile(t *testing.T) {
	if !impl.ValidFile(impl.File{}) || !impl.ValidFile(impl.File{Lines: []impl.Line{}}) {
		t.Error("a file without lines is not valid")
	}
	for text, l := range goodLines() {
		if !impl.ValidFile(impl.File{Lines: []impl.Line{l}}) {
			t.Errorf("the file of %q is not valid", text)
		}
	}
	for _, l := range badLines() {
		for _, lines := range [][]impl.Line{{l}, {l, {}}, {{}, l}} {
			if impl.ValidFile(impl.File{Lines: lines}) {
				t.Errorf("ValidFile(%+v) = true", lines)
			}
		}
	}
	if !impl.ValidFile(impl.File{Lines: make([]impl.Line, 20)}) || impl.ValidFile(impl.File{Lines: make([]impl.Line, 21)}) {
		t.Error("files have not up to 20 lines")
	}
}

func TestFileTextOfLines(t *testing.T) {
	var all impl.File
	want := ""
	for text, l := range goodLines() {
		all.Lines = append(all.Lines, l)
		want += text + "\n"
		if got := impl.FileText(impl.File{Lines: []impl.Line{l}}); got != text+"\n" {
			t.Errorf("FileText(%+v) = %q; want %q", l, got, text+"\n")
		}
	}
	if got := impl.FileText(all); got != want {
		t.Errorf("FileText = %q; want %q", got, want)
	}
	if got := impl.FileText(impl.File{}); got != "" {
		t.Errorf("FileText of no lines = %q", got)
	}
}

func TestParseFileOfLines(t *testing.T) {
	for text, l := range goodLines() {
		f, ok := impl.ParseFile(text + "\n")
		if !ok || !slices.Equal(f.Lines, []impl.Line{l}) {
			t.Errorf("ParseFile(%q) = %+v, %v; want %+v", text+"\n", f, ok, l)
		}
	}
	if f, ok := impl.ParseFile(""); !ok || len(f.Lines) != 0 {
		t.Errorf("ParseFile of nothing = %+v, %v", f, ok)
	}
	f, ok := impl.ParseFile(strings.Repeat("x=\n", 20))
	if !ok || len(f.Lines) != 20 {
		t.Errorf("ParseFile of 20 lines = %+v, %v", f, ok)
	}
}

func TestParseFileOfOtherTexts(t *testing.T) {
	v41, s5 := strings.Repeat("v", 41), "     "
	texts := []string{
		" ", "x", "x = 1", "[a]", "#", "x=1\ny=2", "x=1\n ", "\n ",
		s5 + "\n", s5 + "#\n", s5 + "[a]\n", s5 + "x=1\n", "[a]" + s5 + "\n", "x" + s5 + "=1\n", "x=" + s5 + "1\n", "x=" + s5 + "\n", "x=1" + s5 + "\n",
		"[]\n", "[a\n", "a]\n", "[a]]\n", "[[a]]\n", "[a] x\n", "[a] # n\n", "[a][b]\n", "[ a]\n", "[a ]\n", "[A]\n", "[abcdefghi]\n", "[a=\n", "[\n", "]\n",
		"x\n", "x 1\n", "=\n", "= 1\n", " = 1\n", "X = 1\n", "x y = 1\n", "x. = 1\n", "abcdefghi = 1\n", "x[ = 1\n", "x# = 1\n", "1 = 1\n",
		"x=" + v41 + "\n", "#" + v41[1:] + "\n", "x = \t\n", "x = 1\t\n", "x\t= 1\n", "\tx = 1\n", "\t\n", "x = a\tb\n", "x = 1\r\n", "\r\n", "[a]\r\n", "# n\r\n",
		"x = é\n", "# é\n", "\xff\n", "x = \xff\n", "é = 1\n", "\x00\n", "x = \x7f\n", "#\x7f\n", "\u00a0\n", "x =\u00a01\n",
		strings.Repeat("\n", 21), strings.Repeat("x=\n", 21), strings.Repeat("\n", 20) + "x", strings.Repeat("\n", 20) + " ", "x=1\n\nz\n\n",
	}
	for _, s := range texts {
		if f, ok := impl.ParseFile(s); ok || f.Lines != nil {
			t.Errorf("ParseFile(%q) = %+v, %v", s, f, ok)
		}
	}
}

// TestParseFileOfAllShortTexts holds the reader against the patterns of these tests.
func TestParseFileOfAllShortTexts(t *testing.T) {
	signs := []string{" ", "     ", "a", "=", "#", "[", "]", "\n", "A", "\xc3"}
	for _, s := range upTo(5, signs) {
		rows, want := readRows(s)
		f, ok := impl.ParseFile(s)
		if ok != want || len(f.Lines) != len(rows) {
			t.Fatalf("ParseFile(%q) = %+v, %v; want %v", s, f, ok, want)
		}
		for i, l := range f.Lines {
			if l != rows[i].line {
				t.Fatalf("ParseFile(%q) has the line %+v; want %+v", s, l, rows[i].line)
			}
		}
	}
}
