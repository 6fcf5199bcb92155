package tests

import (
	"math/rand"
	"regexp"
	"slices"
	"strings"
	"testing"

	"loop.example/settinglayers/impl"
)

// row is a line of a text as these tests read it, apart from the program.
type row struct {
	text    string
	section string
	line    impl.Line
}

// The grammar of the document as patterns; they share nothing with the program's reader.
var (
	blankRow = regexp.MustCompile(`^( {0,4})$`)
	noteRow  = regexp.MustCompile(`^( {0,4})(#[ -~]{0,39})$`)
	headRow  = regexp.MustCompile(`^( {0,4})\[([a-z]{1,8})\]( {0,4})$`)
	pairRow  = regexp.MustCompile(`^( {0,4})([a-z]{1,8})( {0,4}= {0,4})([!-~](?:[ -~]{0,38}[!-~])?)( {0,4})$`)
	bareRow  = regexp.MustCompile(`^( {0,4})([a-z]{1,8})( {0,4}= {0,4})$`)
)

// readRow returns the line of a text without its newline.
func readRow(s string) (impl.Line, bool) {
	if m := blankRow.FindStringSubmatch(s); m != nil {
		return impl.Line{Kind: impl.LnBlank, Lead: m[1]}, true
	}
	if m := noteRow.FindStringSubmatch(s); m != nil {
		return impl.Line{Kind: impl.LnNote, Lead: m[1], Value: m[2]}, true
	}
	if m := headRow.FindStringSubmatch(s); m != nil {
		return impl.Line{Kind: impl.LnHead, Lead: m[1], Name: m[2], Tail: m[3]}, true
	}
	if m := pairRow.FindStringSubmatch(s); m != nil {
		return impl.Line{Kind: impl.LnPair, Lead: m[1], Name: m[2], Sep: m[3], Value: m[4], Tail: m[5]}, true
	}
	if m := bareRow.FindStringSubmatch(s); m != nil {
		return impl.Line{Kind: impl.LnPair, Lead: m[1], Name: m[2], Sep: m[3]}, true
	}
	return impl.Line{}, false
}

// readRows returns the rows of a text, and whether it is one of a file.
func readRows(s string) ([]row, bool) {
	parts := strings.Split(s, "\n")
	if parts[len(parts)-1] != "" || len(parts) > 21 {
		return nil, false
	}
	var rows []row
	section := ""
	for _, p := range parts[:len(parts)-1] {
		l, ok := readRow(p)
		if !ok {
			return nil, false
		}
		if l.Kind == impl.LnHead {
			section = l.Name
		}
		rows = append(rows, row{p, section, l})
	}
	return rows, true
}

// rowsOf returns the rows of a text that is one of a file.
func rowsOf(t *testing.T, s string) []row {
	t.Helper()
	rows, ok := readRows(s)
	if !ok {
		t.Fatalf("%q is no text of a file", s)
	}
	return rows
}

// textOf returns the text of rows.
func textOf(rows []row) string {
	var b strings.Builder
	for _, r := range rows {
		b.WriteString(r.text + "\n")
	}
	return b.String()
}

// isPair reports whether a row is a pair of the section, and of the key if that is not "".
func (r row) isPair(s, key string) bool {
	return r.line.Kind == impl.LnPair && r.section == s && (key == "" || r.line.Name == key)
}

// isHead reports whether a row is a head of the section.
func (r row) isHead(s string) bool {
	return r.line.Kind == impl.LnHead && r.line.Name == s
}

// anyRow reports whether one of the rows is as asked for.
func anyRow(rows []row, is func(row) bool) bool {
	return slices.ContainsFunc(rows, is)
}

// lastRow returns the index of the last of the rows that is as asked for, -1 if there is none.
func lastRow(rows []row, is func(row) bool) int {
	for i := len(rows) - 1; i >= 0; i-- {
		if is(rows[i]) {
			return i
		}
	}
	return -1
}

// onceEach returns the texts of a list, each once.
func onceEach(list []string) []string {
	var out []string
	for _, s := range list {
		if !slices.Contains(out, s) {
			out = append(out, s)
		}
	}
	return out
}

// wantSections returns what SectionsOf has to tell.
func wantSections(rows []row) []string {
	var all []string
	for _, r := range rows {
		if r.line.Kind == impl.LnHead || r.line.Kind == impl.LnPair && r.section == "" {
			all = append(all, r.section)
		}
	}
	return onceEach(all)
}

// wantKeys returns what KeysOf has to tell.
func wantKeys(rows []row, s string) []string {
	var all []string
	for _, r := range rows {
		if r.isPair(s, "") {
			all = append(all, r.line.Name)
		}
	}
	return onceEach(all)
}

// wantWhere returns what WhereIs has to tell.
func wantWhere(rows []row, s, key string) int {
	return lastRow(rows, func(r row) bool { return r.isPair(s, key) })
}

// wantNotes returns what NotesOf has to tell.
func wantNotes(rows []row, s, key string) []string {
	var notes []string
	for i := wantWhere(rows, s, key) - 1; i >= 0 && rows[i].line.Kind == impl.LnNote; i-- {
		notes = append([]string{rows[i].line.Value}, notes...)
	}
	return notes
}

// wantSet returns the text that SetValue has to lead to.
func wantSet(rows []row, s, key, value string) (string, bool) {
	rows = slices.Clone(rows)
	if at := wantWhere(rows, s, key); at >= 0 {
		l := rows[at].line
		if value == "" {
			l.Tail = ""
		}
		rows[at].text = l.Lead + l.Name + l.Sep + value + l.Tail
		return textOf(rows), true
	}
	made := []row{{text: key + " = " + value}}
	at := lastRow(rows, func(r row) bool { return r.isPair(s, "") || r.isHead(s) }) + 1
	if s != "" && at == 0 {
		made = append([]row{{text: "[" + s + "]"}}, made...)
		at = len(rows)
	}
	rows = slices.Insert(rows, at, made...)
	return textOf(rows), len(rows) <= 20
}

// wantDropKey returns the text that DropKey has to lead to.
func wantDropKey(rows []row, s, key string) (string, bool) {
	is := func(r row) bool { return r.isPair(s, key) }
	return textOf(slices.DeleteFunc(slices.Clone(rows), is)), anyRow(rows, is)
}

// wantDropSection returns the text that DropSection has to lead to.
func wantDropSection(rows []row, s string) (string, bool) {
	left := slices.DeleteFunc(slices.Clone(rows), func(r row) bool { return r.section == s })
	return textOf(left), anyRow(rows, func(r row) bool { return r.isHead(s) })
}

// wantRenameKey returns the text that RenameKey has to lead to.
func wantRenameKey(rows []row, s, key, to string) (string, bool) {
	ok := anyRow(rows, func(r row) bool { return r.isPair(s, key) }) && !anyRow(rows, func(r row) bool { return r.isPair(s, to) })
	rows = slices.Clone(rows)
	for i, r := range rows {
		if r.isPair(s, key) {
			rows[i].text = r.line.Lead + to + r.line.Sep + r.line.Value + r.line.Tail
		}
	}
	return textOf(rows), ok
}

// wantRenameSection returns the text that RenameSection has to lead to.
func wantRenameSection(rows []row, s, to string) (string, bool) {
	ok := anyRow(rows, func(r row) bool { return r.isHead(s) }) && !anyRow(rows, func(r row) bool { return r.isHead(to) })
	rows = slices.Clone(rows)
	for i, r := range rows {
		if r.isHead(s) {
			rows[i].text = r.line.Lead + "[" + to + "]" + r.line.Tail
		}
	}
	return textOf(rows), ok
}

// wantTidy returns the text of what TidyFile has to lead to.
func wantTidy(rows []row) string {
	text := ""
	for _, s := range wantSections(rows) {
		if s != "" {
			text += "[" + s + "]\n"
		}
		for _, key := range wantKeys(rows, s) {
			text += key + " = " + rows[wantWhere(rows, s, key)].line.Value + "\n"
		}
	}
	return text
}

// wantNoteAdded returns the text that AddNote has to lead to.
func wantNoteAdded(rows []row, s, key, note string) (string, bool) {
	at := wantWhere(rows, s, key)
	if at < 0 || len(rows) == 20 {
		return "", false
	}
	return textOf(slices.Insert(slices.Clone(rows), at, row{text: note})), true
}

// wantMeaning returns the value of each key of each section.
func wantMeaning(rows []row) map[[2]string]string {
	m := map[[2]string]string{}
	for _, r := range rows {
		if r.line.Kind == impl.LnPair {
			m[[2]string{r.section, r.line.Name}] = r.line.Value
		}
	}
	return m
}

// someSections and someKeys have all that texts has, "" as a section, and one more each.
var (
	someSections = []string{"", "a", "b", "c"}
	someKeys     = []string{"x", "y", "z"}
)

// upTo returns all texts of up to n of some parts, the shorter ones first.
func upTo(n int, parts []string) []string {
	list := []string{""}
	for from := 0; n > 0; n-- {
		to := len(list)
		for _, s := range list[from:to] {
			for _, p := range parts {
				list = append(list, s+p)
			}
		}
		from = to
	}
	return list
}

// texts returns texts of files: all of up to four of a few lines, and some longer ones up to the limit.
func texts() []string {
	few := []string{"\n", "  # n\n", "[a]\n", " [b]  \n", "x = 1\n", "x= 2 \n", " y =\n", "y=3\n"}
	out := upTo(4, few)
	more := append(few, "# n n \n", "    \n", "x =    \n", "    z    =    a = b    \n", "z = "+strings.Repeat("v", 40)+"\n", "[abcdefgh]\n", "abcdefgh=#[]\n")
	random := rand.New(rand.NewSource(1))
	for i := 0; i < 400; i++ {
		s := ""
		for n := 5 + i%16; n > 0; n-- {
			s += more[random.Intn(len(more))]
		}
		out = append(out, s)
	}
	return out
}

// eachFile calls check with each of texts and its file, until one fails.
func eachFile(t *testing.T, check func(t *testing.T, f impl.File, rows []row)) {
	t.Helper()
	for _, s := range texts() {
		check(t, parse(t, s), rowsOf(t, s))
		if t.Failed() {
			t.Fatalf("in the file %q", s)
		}
	}
}

// eachPlace calls check with each of someSections and each of someKeys.
func eachPlace(check func(s, key string)) {
	for _, s := range someSections {
		for _, key := range someKeys {
			check(s, key)
		}
	}
}

// parse returns the file of a text that is one of a file.
func parse(t *testing.T, s string) impl.File {
	t.Helper()
	f, ok := impl.ParseFile(s)
	if !ok {
		t.Fatalf("ParseFile(%q) fails", s)
	}
	return f
}

// sameFile reports whether two files have the same lines.
func sameFile(f, g impl.File) bool {
	return slices.Equal(f.Lines, g.Lines)
}

// checkTurned checks the result of a function that turns a file, by the text it has to lead to.
func checkTurned(t *testing.T, what string, g impl.File, ok bool, want string, wantOK bool) {
	t.Helper()
	if ok != wantOK {
		t.Errorf("%s = %v, %v; want %v", what, g, ok, wantOK)
	} else if !ok && g.Lines != nil {
		t.Errorf("%s fails with %v", what, g)
	} else if ok && (!impl.ValidFile(g) || impl.FileText(g) != want) {
		t.Errorf("%s = %q; want %q", what, impl.FileText(g), want)
	}
}
