package impl

import (
	"slices"
	"strings"
)

// MaxName is the largest number of letters of a name.
const MaxName = 8

// MaxValue is the largest number of bytes of a value.
const MaxValue = 40

// MaxSpaces is the largest number of spaces in one place.
const MaxSpaces = 4

// MaxLines is the largest number of lines of a file.
const MaxLines = 20

// LnBlank is a kind of line: nothing.
const LnBlank = 0

// LnNote is a kind of line: a note.
const LnNote = 1

// LnHead is a kind of line: the head of a section.
const LnHead = 2

// LnPair is a kind of line: a key with its value.
const LnPair = 3

// Line is a line of a file: what it begins with, its name, what separates, its value, and what it ends with.
type Line struct {
	Kind  int
	Lead  string
	Name  string
	Sep   string
	Value string
	Tail  string
}

// File is a file of settings.
type File struct {
	Lines []Line
}

// newSep is what separates the key and the value of a line that is made anew.
const newSep = " = "

// form is a line with just the parts that its kind has, so that a Line which
// differs from the line of its form has a part that is not for its kind.
type form interface {
	line() Line
	valid() bool
}

type blankForm struct{ lead string }

type noteForm struct{ lead, note string }

type headForm struct{ lead, name, tail string }

type pairForm struct{ lead, name, sep, value, tail string }

func (x blankForm) line() Line {
	return Line{Kind: LnBlank, Lead: x.lead}
}

func (x noteForm) line() Line {
	return Line{Kind: LnNote, Lead: x.lead, Value: x.note}
}

func (x headForm) line() Line {
	return Line{Kind: LnHead, Lead: x.lead, Name: x.name, Tail: x.tail}
}

func (x pairForm) line() Line {
	return Line{Kind: LnPair, Lead: x.lead, Name: x.name, Sep: x.sep, Value: x.value, Tail: x.tail}
}

func (x blankForm) valid() bool {
	return fewSpaces(x.lead)
}

func (x noteForm) valid() bool {
	return fewSpaces(x.lead) && strings.HasPrefix(x.note, "#") && len(x.note) <= MaxValue && printable(x.note)
}

func (x headForm) valid() bool {
	return fewSpaces(x.lead) && ValidName(x.name) && fewSpaces(x.tail)
}

func (x pairForm) valid() bool {
	// Spaces behind a value without bytes are part of Sep, so that a text has one file only.
	if x.value == "" && x.tail != "" {
		return false
	}
	return fewSpaces(x.lead) && ValidName(x.name) && validSep(x.sep) && ValidValue(x.value) && fewSpaces(x.tail)
}

// formOf returns the form of a line, nil if there is no such kind.
func formOf(l Line) form {
	switch l.Kind {
	case LnBlank:
		return blankForm{l.Lead}
	case LnNote:
		return noteForm{l.Lead, l.Value}
	case LnHead:
		return headForm{l.Lead, l.Name, l.Tail}
	case LnPair:
		return pairForm{l.Lead, l.Name, l.Sep, l.Value, l.Tail}
	}
	return nil
}

func validLine(l Line) bool {
	x := formOf(l)
	return x != nil && x.line() == l && x.valid()
}

func fewSpaces(s string) bool {
	return len(s) <= MaxSpaces && strings.Trim(s, " ") == ""
}

func validSep(s string) bool {
	before, after, found := strings.Cut(s, "=")
	return found && fewSpaces(before) && fewSpaces(after)
}

// printable also refuses bytes that are no UTF-8: they range as a rune above ~.
func printable(s string) bool {
	for _, r := range s {
		if r < ' ' || r > '~' {
			return false
		}
	}
	return true
}

// ValidName reports whether a text is a name.
func ValidName(s string) bool {
	if s == "" || len(s) > MaxName {
		return false
	}
	for _, r := range s {
		if r < 'a' || r > 'z' {
			return false
		}
	}
	return true
}

// ValidValue reports whether a text is a value.
func ValidValue(s string) bool {
	return len(s) <= MaxValue && printable(s) && strings.Trim(s, " ") == s
}

// ValidFile reports whether a file is valid.
func ValidFile(f File) bool {
	if len(f.Lines) > MaxLines {
		return false
	}
	for _, l := range f.Lines {
		if !validLine(l) {
			return false
		}
	}
	return true
}

// FileText returns the text of a file.
func FileText(f File) string {
	if !ValidFile(f) {
		return ""
	}
	text := ""
	for _, l := range f.Lines {
		text += lineText(l) + "\n"
	}
	return text
}

func lineText(l Line) string {
	switch x := formOf(l).(type) {
	case blankForm:
		return x.lead
	case noteForm:
		return x.lead + x.note
	case headForm:
		return x.lead + "[" + x.name + "]" + x.tail
	case pairForm:
		return x.lead + x.name + x.sep + x.value + x.tail
	}
	return ""
}

// ParseFile returns the file of a text.
func ParseFile(s string) (File, bool) {
	var lines []Line
	for s != "" {
		text, rest, ended := strings.Cut(s, "\n")
		if !ended || len(lines) == MaxLines {
			return File{}, false
		}
		l, ok := readLine(text)
		if !ok {
			return File{}, false
		}
		lines = append(lines, l)
		s = rest
	}
	return File{Lines: lines}, true
}

// readLine returns the valid line of a text. There is one at most: the first byte
// behind the spaces tells the kind, and a value neither begins nor ends with a space.
func readLine(text string) (Line, bool) {
	for i, r := range text {
		switch r {
		case ' ':
		case '#':
			return lineOf(noteForm{text[:i], text[i:]})
		case '[':
			return readHead(text[:i], text[i+1:])
		default:
			return readPair(text[:i], text[i:])
		}
	}
	return lineOf(blankForm{text})
}

func lineOf(x form) (Line, bool) {
	if !x.valid() {
		return Line{}, false
	}
	return x.line(), true
}

func readHead(lead string, rest string) (Line, bool) {
	name, tail, found := strings.Cut(rest, "]")
	if !found {
		return Line{}, false
	}
	return lineOf(headForm{lead, name, tail})
}

func readPair(lead string, rest string) (Line, bool) {
	before, after, found := strings.Cut(rest, "=")
	if !found {
		return Line{}, false
	}
	name := strings.TrimRight(before, " ")
	open := strings.TrimLeft(after, " ")
	value := strings.TrimRight(open, " ")
	return lineOf(pairForm{
		lead:  lead,
		name:  name,
		sep:   before[len(name):] + "=" + after[:len(after)-len(open)],
		value: value,
		tail:  open[len(value):],
	})
}

// SectionsOf returns the sections of a file.
func SectionsOf(f File) []string {
	if !ValidFile(f) {
		return nil
	}
	var sections []string
	now := ""
	for _, l := range f.Lines {
		switch x := formOf(l).(type) {
		case headForm:
			now = x.name
			sections = addOnce(sections, now)
		case pairForm:
			// Behind a head the section is there already: this adds "" alone.
			sections = addOnce(sections, now)
		}
	}
	return sections
}

func addOnce[T comparable](list []T, x T) []T {
	if slices.Contains(list, x) {
		return list
	}
	return append(list, x)
}

// linesIn returns the indices of the lines of a section of a valid file, its heads included.
func linesIn(f File, s string) []int {
	if !ValidFile(f) {
		return nil
	}
	var at []int
	now := ""
	for i, l := range f.Lines {
		if l.Kind == LnHead {
			now = l.Name
		}
		if now == s {
			at = append(at, i)
		}
	}
	return at
}

// pairsOf returns the indices of the pairs of a key in a section of a valid file.
func pairsOf(f File, s string, key string) []int {
	var at []int
	for _, i := range linesIn(f, s) {
		if f.Lines[i].Kind == LnPair && f.Lines[i].Name == key {
			at = append(at, i)
		}
	}
	return at
}

func headsOf(f File, s string) []int {
	var at []int
	for _, i := range linesIn(f, s) {
		if f.Lines[i].Kind == LnHead {
			at = append(at, i)
		}
	}
	return at
}

// KeysOf returns the keys of a section.
func KeysOf(f File, s string) []string {
	var keys []string
	for _, i := range linesIn(f, s) {
		if f.Lines[i].Kind == LnPair {
			keys = addOnce(keys, f.Lines[i].Name)
		}
	}
	return keys
}

// GetValue returns the value of a key.
func GetValue(f File, s string, key string) (string, bool) {
	at := WhereIs(f, s, key)
	if at < 0 {
		return "", false
	}
	return f.Lines[at].Value, true
}

// validLines returns the file of lines if it is valid; it keeps the lines, which must be new.
func validLines(lines []Line) (File, bool) {
	f := File{Lines: lines}
	if !ValidFile(f) {
		return File{}, false
	}
	return f, true
}

func copyLines(lines []Line) []Line {
	made := make([]Line, len(lines))
	copy(made, lines)
	return made
}

// putLines returns new lines: those given, with more ahead of the one at an index.
func putLines(lines []Line, at int, more ...Line) []Line {
	made := make([]Line, len(lines)+len(more))
	copy(made, lines[:at])
	copy(made[at:], more)
	copy(made[at+len(more):], lines[at:])
	return made
}

// cutLines returns new lines: those given, without the ones at some ascending indices.
func cutLines(lines []Line, at []int) []Line {
	made := make([]Line, 0, len(lines)-len(at))
	for i, l := range lines {
		if len(at) > 0 && at[0] == i {
			at = at[1:]
			continue
		}
		made = append(made, l)
	}
	return made
}

// nameLines returns new lines: those given, with a name for the ones at some indices.
func nameLines(lines []Line, at []int, name string) []Line {
	made := copyLines(lines)
	for _, i := range at {
		made[i].Name = name
	}
	return made
}

// SetValue returns a file in which a key has a value.
func SetValue(f File, s string, key string, value string) (File, bool) {
	// The arguments are not checked here: all of them get into the lines, so
	// that those which are not valid make no valid file.
	if at := WhereIs(f, s, key); at >= 0 {
		return validLines(valueLines(f.Lines, at, value))
	}
	pair := pairForm{name: key, sep: newSep, value: value}.line()
	if s != "" && len(headsOf(f, s)) == 0 {
		return validLines(putLines(f.Lines, len(f.Lines), headForm{name: s}.line(), pair))
	}
	return validLines(putLines(f.Lines, endOf(f, s), pair))
}

func valueLines(lines []Line, at int, value string) []Line {
	made := copyLines(lines)
	made[at].Value = value
	if value == "" {
		made[at].Tail = ""
	}
	return made
}

// endOf returns the index behind the last head or pair of a section, 0 if it has none.
func endOf(f File, s string) int {
	end := 0
	for _, i := range linesIn(f, s) {
		switch formOf(f.Lines[i]).(type) {
		case headForm, pairForm:
			end = i + 1
		}
	}
	return end
}

// DropKey returns a file without a key.
func DropKey(f File, s string, key string) (File, bool) {
	at := pairsOf(f, s, key)
	if len(at) == 0 {
		return File{}, false
	}
	return File{Lines: cutLines(f.Lines, at)}, true
}

// DropSection returns a file without a section.
func DropSection(f File, s string) (File, bool) {
	// "" has no heads: the lines ahead of all heads cannot be dropped.
	if len(headsOf(f, s)) == 0 {
		return File{}, false
	}
	return File{Lines: cutLines(f.Lines, linesIn(f, s))}, true
}

// RenameKey returns a file in which a key has another name.
func RenameKey(f File, s string, key string, to string) (File, bool) {
	at := pairsOf(f, s, key)
	if len(at) == 0 || len(pairsOf(f, s, to)) > 0 {
		return File{}, false
	}
	return validLines(nameLines(f.Lines, at, to))
}

// TidyFile returns a file without all that means nothing.
func TidyFile(f File) File {
	var lines []Line
	for _, s := range SectionsOf(f) {
		if s != "" {
			lines = append(lines, headForm{name: s}.line())
		}
		for _, key := range KeysOf(f, s) {
			value, _ := GetValue(f, s, key)
			lines = append(lines, pairForm{name: key, sep: newSep, value: value}.line())
		}
	}
	return File{Lines: lines}
}

// RenameSection returns a file in which a section has another name.
func RenameSection(f File, s string, to string) (File, bool) {
	at := headsOf(f, s)
	if len(at) == 0 || len(headsOf(f, to)) > 0 {
		return File{}, false
	}
	return validLines(nameLines(f.Lines, at, to))
}

// WhereIs returns the line of a key.
func WhereIs(f File, s string, key string) int {
	at := pairsOf(f, s, key)
	if len(at) == 0 {
		return -1
	}
	return at[len(at)-1]
}

// NotesOf returns the notes above a key.
func NotesOf(f File, s string, key string) []string {
	at := WhereIs(f, s, key)
	first := at
	for first > 0 && f.Lines[first-1].Kind == LnNote {
		first--
	}
	var notes []string
	for i := first; i < at; i++ {
		notes = append(notes, f.Lines[i].Value)
	}
	return notes
}

// AddNote returns a file with a note above a key.
func AddNote(f File, s string, key string, note string) (File, bool) {
	at := WhereIs(f, s, key)
	if at < 0 {
		return File{}, false
	}
	return validLines(putLines(f.Lines, at, noteForm{note: note}.line()))
}

// SameMeaning reports whether two files tell the same.
func SameMeaning(f File, g File) bool {
	return ValidFile(f) && ValidFile(g) && tellsAll(f, g) && tellsAll(g, f)
}

// tellsAll reports whether a file has all keys of another one, with its values.
func tellsAll(f File, g File) bool {
	for _, s := range SectionsOf(g) {
		for _, key := range KeysOf(g, s) {
			want, _ := GetValue(g, s, key)
			have, ok := GetValue(f, s, key)
			if !ok || have != want {
				return false
			}
		}
	}
	return true
}
