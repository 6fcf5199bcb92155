package tests

import (
	"math/rand"
	"regexp"
	"slices"
	"strconv"
	"strings"
	"testing"

	"loop.example/settinglayers/impl"
)

// The texts of entries as arguments, as surroundings and as lines of a layer, and the lines
// of a desk, as patterns; they share nothing with the program's readers.
var (
	valuePart  = `((?:[!-~](?:[ -~]{0,38}[!-~])?)?)`
	placePart  = `((?:[a-z]{1,8}\.)?[a-z]{1,8})`
	dropArg    = regexp.MustCompile(`^--no-` + placePart + `$`)
	giveArg    = regexp.MustCompile(`^--` + placePart + `(\+?)=` + valuePart + `$`)
	envForm    = regexp.MustCompile(`^(?:([A-Z]{1,8})_)?([A-Z]{1,8})=` + valuePart + `$`)
	dropRow    = regexp.MustCompile(`^` + placePart + ` -$`)
	giveRow    = regexp.MustCompile(`^` + placePart + ` ([=+]) ` + valuePart + `$`)
	deskForm   = regexp.MustCompile(`^(raw|get|why|from) ` + placePart + `$`)
	deskLayers = []string{"args", "env", "file"}
	deskEnds   = map[int]string{impl.ExBad: "bad", impl.ExMissing: "missing", impl.ExCycle: "cycle", impl.ExLong: "long"}
)

// placedEntry returns an entry at the place of a text.
func placedEntry(where string, op int, value string) impl.Entry {
	r, _ := wantPlace(where)
	return impl.Entry{Section: r.Section, Key: r.Key, Op: op, Value: value}
}

// wantArg returns what ParseArg has to tell.
func wantArg(s string) (impl.Entry, bool) {
	if m := dropArg.FindStringSubmatch(s); m != nil {
		return placedEntry(m[1], impl.OpDrop, ""), true
	}
	if m := giveArg.FindStringSubmatch(s); m != nil {
		return placedEntry(m[1], map[string]int{"": impl.OpSet, "+": impl.OpAdd}[m[2]], m[3]), true
	}
	return impl.Entry{}, false
}

// wantArgText returns what ArgText has to tell.
func wantArgText(e impl.Entry) string {
	if !wantValid([]impl.Entry{e}) {
		return ""
	}
	where := wantPlaceText(entryRef(e))
	return []string{"--" + where + "=", "--no-" + where, "--" + where + "+="}[e.Op] + e.Value
}

// wantTold returns the entry that a spot has after entries, one over the other. Unlike the
// program it looks for the last one that hides those ahead of it.
func wantTold(all []impl.Entry, p spot) impl.Entry {
	told := impl.Entry{Section: p.section, Key: p.key, Op: impl.OpAdd}
	var parts []string
	for _, e := range slices.Backward(all) {
		if spotOf(e) != p {
			continue
		}
		if e.Op != impl.OpDrop {
			parts = append([]string{e.Value}, parts...)
		}
		if e.Op != impl.OpAdd {
			told.Op = impl.OpSet
			break
		}
	}
	if len(parts) == 0 {
		told.Op = impl.OpDrop
	}
	told.Value = strings.Join(parts, ",")
	return told
}

// wantArgs returns the entries that ArgLayer has to lead to.
func wantArgs(args []string) ([]impl.Entry, bool) {
	var all, entries []impl.Entry
	for _, s := range args {
		e, ok := wantArg(s)
		if !ok {
			return nil, false
		}
		all = append(all, e)
	}
	for _, p := range spotsUp(impl.Layer{Entries: all}) {
		entries = append(entries, wantTold(all, p))
	}
	return entries, wantValid(entries)
}

// wantEnv returns what ParseEnv has to tell.
func wantEnv(s string) (impl.Entry, bool) {
	m := envForm.FindStringSubmatch(s)
	if m == nil {
		return impl.Entry{}, false
	}
	return impl.Entry{Section: strings.ToLower(m[1]), Key: strings.ToLower(m[2]), Value: m[3]}, true
}

// wantEnvText returns what EnvText has to tell.
func wantEnvText(e impl.Entry) string {
	if !wantValid([]impl.Entry{e}) || e.Op != impl.OpSet {
		return ""
	}
	return strings.TrimPrefix(strings.ToUpper(e.Section+"_"+e.Key), "_") + "=" + e.Value
}

// wantEnvs returns the entries that EnvLayer has to lead to.
func wantEnvs(list []string) ([]impl.Entry, bool) {
	var all, entries []impl.Entry
	for _, s := range list {
		if e, ok := wantEnv(s); ok {
			all = append(all, e)
		}
	}
	for _, p := range spotsUp(impl.Layer{Entries: all}) {
		entries = append(entries, wantTold(all, p))
	}
	return entries, wantValid(entries)
}

// wantLayerText returns what LayerText has to tell.
func wantLayerText(l impl.Layer) string {
	text := ""
	for _, e := range l.Entries {
		text += wantPlaceText(entryRef(e)) + []string{" = ", " -", " + "}[e.Op] + e.Value + "\n"
	}
	return text
}

// wantLayer returns the entries that ParseLayer has to lead to.
func wantLayer(s string) ([]impl.Entry, bool) {
	var entries []impl.Entry
	rows := strings.Split(s, "\n")
	for _, text := range rows[:len(rows)-1] {
		if m := dropRow.FindStringSubmatch(text); m != nil {
			entries = append(entries, placedEntry(m[1], impl.OpDrop, ""))
		} else if m := giveRow.FindStringSubmatch(text); m != nil {
			entries = append(entries, placedEntry(m[1], map[string]int{"=": impl.OpSet, "+": impl.OpAdd}[m[2]], m[3]))
		} else {
			return nil, false
		}
	}
	return entries, rows[len(rows)-1] == "" && wantValid(entries)
}

// deskCase is a file with surroundings and arguments.
type deskCase struct {
	file      string
	env, args []string
}

// wantStack returns what StackOf has to tell, and the flat layer of it.
func wantStack(c deskCase) ([]impl.Layer, impl.Layer, bool) {
	args, hasArgs := wantArgs(c.args)
	env, hasEnv := wantEnvs(c.env)
	rows, hasFile := readRows(c.file)
	if !hasArgs || !hasEnv || !hasFile {
		return nil, impl.Layer{}, false
	}
	stack := []impl.Layer{{Entries: args}, {Entries: env}, {Entries: wantEntries(rows)}}
	flat, ok := wantFlat(stack)
	if !ok {
		return nil, impl.Layer{}, false
	}
	return stack, impl.Layer{Entries: flat}, true
}

// wantAnswer returns the answer of a desk about a stack and its flat layer to a line.
func wantAnswer(stack []impl.Layer, flat impl.Layer, line string) string {
	if line == "list" {
		var places []string
		for _, e := range flat.Entries {
			places = append(places, wantPlaceText(entryRef(e)))
		}
		return strings.Join(places, " ")
	}
	m := deskForm.FindStringSubmatch(line)
	if m == nil {
		return "what"
	}
	r, _ := wantPlace(m[2])
	p := spot{r.Section, r.Key}
	value, has := wantValue(stack, p)
	from, given := wantSource(flat, r.Section, r.Key)
	switch {
	case m[1] == "raw" && has:
		return "is " + value
	case m[1] == "why":
		return wantNobody(wantWhy(stack, p))
	case m[1] == "from" && given:
		return "[" + from.Section + "]"
	case m[1] == "get" && given:
		text, how := wantMadeRef(flat, entryRef(from), nil)
		if how != impl.ExOk {
			return deskEnds[how]
		}
		return "is " + text
	}
	return "missing"
}

// wantNobody returns the answer to why about layers.
func wantNobody(why []int) string {
	var names []string
	for _, i := range why {
		names = append(names, deskLayers[i])
	}
	if names == nil {
		return "nobody"
	}
	return strings.Join(names, " ")
}

// wantDesk returns what RunDesk has to tell.
func wantDesk(c deskCase, lines []string) string {
	if len(lines) > 20 {
		return ""
	}
	stack, flat, ok := wantStack(c)
	text := ""
	for _, line := range lines {
		answer := "wrong"
		if ok {
			answer = wantAnswer(stack, flat, line)
		}
		text += answer + "\n"
	}
	return text
}

// deskSections and deskKeys are those of deskCases. A key or a section may be no, as in --no-.
var (
	deskSections = []string{"", "a", "b", "no"}
	deskKeys     = []string{"x", "y", "base", "no", "abcdefgh"}
)

// deskValue returns a value of a key: of BaseKey often bases, of others often references.
func deskValue(random *rand.Rand, key string) string {
	values := []string{"", "1", "a  b", "${y}", "${a:x}", "${:no}-$$", "=", "-", "$", "+=2", strings.Repeat("v", 18), strings.Repeat("${x}", 5), strings.Repeat("${y}", 8), strings.Repeat("w", 1+random.Intn(40))}
	switch n := random.Intn(5); {
	case key == "base" && n > 0:
		values = []string{"a", "b", "no", "b, a", "q", "A", ""}
	case key == "y" && n == 0:
		values = []string{strings.Repeat("w", 18+random.Intn(20))}
	}
	return values[random.Intn(len(values))]
}

// deskEntry returns an entry of one of the first few places.
func deskEntry(random *rand.Rand, places, op int) impl.Entry {
	at := random.Intn(places)
	e := impl.Entry{Section: deskSections[at%4], Key: deskKeys[at/4], Op: op}
	if op != impl.OpDrop {
		e.Value = deskValue(random, e.Key)
	}
	return e
}

// noArgs and noEnvs are texts that are no arguments, and none of the surroundings.
var (
	noArgs = []string{
		"", "-", "--", "---", "x", "x=1", "-x=1", "--x", "--a.x", "---x=1", " --x=1", "-- x=1", "--x =1", "--x= 1", "--x=1 ", "--x=\n", "--x=1\n", "--x=é", "--x=" + strings.Repeat("v", 41), "--=1", "--=", "--+=1", "--+=", "--+", "--x+", "--x++=1", "--x+ =1", "--x-=1", "--x-", "--.x=1", "--a.=1", "--a..x=1", "--a.b.x=1", "--.=1",
		"--X=1", "--A.x=1", "--a.X=1", "--é=1", "--abcdefghi=1", "--abcdefghi.x=1", "--a.abcdefghi+=1", "--x1=1", "--a:x=1", "--a x=1", "no-x", "-no-x", "--no", "--no-", "--nox", "--no x", "--no--x", "--no-no-x", "--no-x=", "--no-x=1", "--no-x+=1", "--no-a.x=1", "--no-x ", "--no- x", "--no-x\n", "--no-X", "--no-.x", "--no-a.", "--no-abcdefghi", "--no-a.b.x", "--No-x", "--no_x", "--no-=1", "--no.-x",
	}
	noEnvs = []string{
		"", "=", "=1", "_", "_=1", "__=1", "X", "A_X", "x=1", "a_x=1", "a_X=1", "A_x=1", "Ax=1", "xA=1", "X =1", " X=1", "X= 1", "X=1 ", "X=\n", "X=1\n", "X=é", "X=" + strings.Repeat("v", 41), "_X=1", "A_=1", "A__X=1", "_A_X=1", "A_X_=1", "A_B_C=1", "A.X=1", "A-X=1", "X1=1", "ABCDEFGHI=1", "ABCDEFGHI_X=1", "A_ABCDEFGHI=1",
		"É=1", "\u212a=1", "\u017f=1", "\u0130=1", "A_\u212a=1", "\u017f_X=1", "X\xff=1", "--x=1", "x = 1", "X+=1", "X==\x00", "\"X\"=1", "A X=1", "X\t=1",
	}
)

// someArgs returns n arguments about the first few places.
func someArgs(random *rand.Rand, places, n int) []string {
	var args []string
	for range n {
		args = append(args, wantArgText(deskEntry(random, places, random.Intn(3))))
	}
	return args
}

// someEnvs returns n surroundings about the first few places, and some more that are none.
func someEnvs(random *rand.Rand, places, n int) []string {
	var list []string
	for range n {
		list = append(list, wantEnvText(deskEntry(random, places, impl.OpSet)))
		if random.Intn(2) == 0 {
			list = append(list, noEnvs[random.Intn(len(noEnvs))])
		}
	}
	return list
}

// someFile returns the text of a file with n keys of the first few places, with notes, under heads that may come again.
func someFile(random *rand.Rand, places, n int) string {
	text, s := "", ""
	for range n {
		e := deskEntry(random, places, impl.OpSet)
		if e.Section == "" {
			text = e.Key + "=" + e.Value + "\n" + text
			continue
		}
		if e.Section != s {
			s = e.Section
			text += "[" + s + "]\n"
		}
		text += e.Key + " = " + e.Value + "\n" + []string{"", "", "\n", "# n\n"}[random.Intn(4)]
	}
	return text
}

// deskCases returns n files with surroundings and arguments, some of which have no stack.
func deskCases(n int) []deskCase {
	random := rand.New(rand.NewSource(13))
	var list []deskCase
	for i := range n {
		places := []int{4, 8, 12, 20, 20}[i%5]
		c := deskCase{someFile(random, places, random.Intn(12)), someEnvs(random, places, random.Intn(8)), someArgs(random, places, random.Intn(10))}
		switch random.Intn(24) {
		case 0:
			c.args = slices.Insert(c.args, random.Intn(len(c.args)+1), noArgs[random.Intn(len(noArgs))])
		case 1:
			c.file += []string{"x", "x=é\n", "[A]\n", " ]\n"}[random.Intn(4)]
		case 2:
			c.env = append(c.env, manyEnvs("z", 0, 21)...)
		}
		list = append(list, c)
	}
	return list
}

// eachDesk calls check with each of deskCases, until one fails.
func eachDesk(t *testing.T, check func(t *testing.T, c deskCase)) {
	t.Helper()
	for _, c := range deskCases(2500) {
		if check(t, c); t.Failed() {
			t.Fatalf("in the file %q with the surroundings %q and the arguments %q", c.file, c.env, c.args)
		}
	}
}

// eachDeskStack calls check with each of deskCases that has a stack, and its flat layer, until one fails.
func eachDeskStack(t *testing.T, check func(t *testing.T, c deskCase, stack []impl.Layer, flat impl.Layer)) {
	t.Helper()
	n := 0
	eachDesk(t, func(t *testing.T, c deskCase) {
		stack, ok := impl.StackOf(c.file, c.env, c.args)
		if !ok {
			return
		}
		n++
		flat, ok := impl.Flatten(stack)
		if !ok {
			t.Errorf("Flatten of the stack %+v fails", stack)
		}
		check(t, c, stack, flat)
	})
	enough(t, "stacks", n, 1000)
}

// someLines returns n lines for a desk, most of them about places that deskCases have.
func someLines(random *rand.Rand, n int) []string {
	var lines []string
	for range n {
		where := wantPlaceText(entryRef(deskEntry(random, 20, impl.OpDrop)))
		line := []string{"raw ", "get ", "why ", "from "}[random.Intn(4)] + where
		switch random.Intn(16) {
		case 0:
			line = "list"
		case 1:
			line = []string{"", "help", "get", "raw ", "q.q", where, "list " + where, "get " + where + " ", "why q.y", "from q", "get q." + where, "raw " + strconv.Quote(where)}[random.Intn(12)]
		}
		lines = append(lines, line)
	}
	return lines
}

// wholeEntries are entries of all that can be done at some places, with some values.
func wholeEntries() []impl.Entry {
	var list []impl.Entry
	for _, s := range append(slices.Clone(deskSections), "abcdefgh", "z") {
		for _, key := range append(slices.Clone(deskKeys), "z", "list") {
			list = append(list, impl.Entry{Section: s, Key: key, Op: impl.OpDrop})
			for _, value := range []string{"", "1", "a  b", "-", "=", "+", "=1", "+=1", "= 1", "--x=1", "--no-x", "no-x", "A_X=1", "_", "a.x", "${a:x}", strings.Repeat("v", 40)} {
				list = append(list, impl.Entry{Section: s, Key: key, Value: value}, impl.Entry{Section: s, Key: key, Op: impl.OpAdd, Value: value})
			}
		}
	}
	return list
}

// turnedTexts returns the texts, and many of which one byte is another one, or is missing, or is there twice.
func turnedTexts(random *rand.Rand, list []string, n int) []string {
	list = slices.Clone(list)
	texts := len(list)
	for range n {
		s := []byte(list[random.Intn(texts)])
		if len(s) == 0 {
			continue
		}
		switch at := random.Intn(len(s)); random.Intn(4) {
		case 0:
			s = slices.Delete(s, at, at+1)
		case 1:
			s = slices.Insert(s, at, s[at])
		case 2:
			s[at] = "-=+._ aAxX\n"[random.Intn(11)]
		default:
			s[at] = byte(random.Intn(256))
		}
		list = append(list, string(s))
	}
	return list
}

// checkEntry checks the result of a function that reads an entry.
func checkEntry(t *testing.T, what string, got impl.Entry, ok bool, want impl.Entry, wantOK bool) {
	t.Helper()
	if got != want || ok != wantOK {
		t.Errorf("%s = %+v, %v; want %+v, %v", what, got, ok, want, wantOK)
	}
}
