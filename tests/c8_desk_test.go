package tests

import (
	"math/rand"
	"slices"
	"strings"
	"testing"

	"loop.example/settinglayers/impl"
)

func TestLimitOfDesks(t *testing.T) {
	if impl.MaxDesk != 20 {
		t.Error("the limit is not that of the document")
	}
}

// manyArgs and manyEnvs return the arguments and the surroundings that have manyKeys.
func manyArgs(section string, from, n int) []string {
	var args []string
	for _, e := range manyKeys(section, from, n).Entries {
		args = append(args, wantArgText(e))
	}
	return args
}

func manyEnvs(section string, from, n int) []string {
	var list []string
	for _, e := range manyKeys(section, from, n).Entries {
		list = append(list, wantEnvText(e))
	}
	return list
}

func TestArgumentsOfOneKey(t *testing.T) {
	v := strings.Repeat("v", 40)
	for _, c := range []struct {
		args []string
		want impl.Layer
	}{
		{nil, impl.Layer{}},
		{[]string{"--x=1"}, lay("x=1")},
		{[]string{"--x+=1"}, lay("x+1")},
		{[]string{"--no-x"}, lay("x-")},
		{[]string{"--x=1", "--x=2"}, lay("x=2")},
		{[]string{"--x=1", "--x=1"}, lay("x=1")},
		{[]string{"--x=1", "--x+=2"}, lay("x=1,2")},
		{[]string{"--x=1", "--no-x"}, lay("x-")},
		{[]string{"--x+=1", "--x=2"}, lay("x=2")},
		{[]string{"--x+=1", "--x+=2"}, lay("x+1,2")},
		{[]string{"--x+=1", "--no-x"}, lay("x-")},
		{[]string{"--no-x", "--x=1"}, lay("x=1")},
		{[]string{"--no-x", "--x+=1"}, lay("x=1")},
		{[]string{"--no-x", "--no-x"}, lay("x-")},
		{[]string{"--no-x", "--x+=1", "--x+=2"}, lay("x=1,2")},
		{[]string{"--x=", "--x+="}, lay("x=,")},
		{[]string{"--x+=", "--x+=", "--x+=1"}, lay("x+,,1")},
		{[]string{"--no-x", "--x+="}, lay("x=")},
		{[]string{"--x=1", "--x+=2", "--x+=3", "--no-x", "--x+=4", "--x+=5"}, lay("x=4,5")},
		{[]string{"--x+=1", "--x+=2", "--x=3", "--x+=4"}, lay("x=3,4")},
		{[]string{"--x+=a", "--a.x+=b", "--x.x+=c", "--a.x+=d", "--x+=e"}, lay("x+a,e", "a.x+b,d", "x.x+c")},
		{[]string{"--a.x=1", "--k+=2", "--a.x+=3", "--no-k", "--k+=4"}, lay("a.x=1,3", "k=4")},
		{[]string{"--y=1", "--x=2", "--no-y", "--z+=3", "--y+=4", "--x=5"}, lay("y=4", "x=5", "z+3")},
		// Values may be too long on the way.
		{[]string{"--x=" + v, "--x+=1", "--x=2"}, lay("x=2")},
		{[]string{"--x=" + v, "--x+=1", "--no-x"}, lay("x-")},
		{[]string{"--x=" + v, "--x+=1", "--no-x", "--x+=2"}, lay("x=2")},
		{[]string{"--x+=" + v, "--x+=" + v, "--x+=" + v, "--x+=1", "--x=" + v}, lay("x=" + v)},
		{[]string{"--x+=" + v, "--x+=" + v, "--y=1", "--no-x", "--x+=" + v, "--y+=2"}, lay("x="+v, "y=1,2")},
		{[]string{"--x=" + v[:38], "--x+=1"}, lay("x=" + v[:38] + ",1")},
		{[]string{"--x+=" + v[:39], "--x+="}, lay("x+" + v[:39] + ",")},
		{slices.Repeat([]string{"--x+="}, 41), lay("x+" + strings.Repeat(",", 40))},
		{slices.Repeat([]string{"--x=1", "--x+=2"}, 1000), lay("x=1,2")},
		{slices.Repeat([]string{"--no-x", "--a.x=1"}, 1000), lay("x-", "a.x=1")},
	} {
		l, ok := impl.ArgLayer(c.args)
		checkLayer(t, "ArgLayer of "+strings.Join(c.args[:min(len(c.args), 10)], " "), l, ok, c.want.Entries, true)
	}
}

func TestArgumentsThatAreTooMuch(t *testing.T) {
	v := strings.Repeat("v", 40)
	for _, args := range [][]string{
		{"--x=" + v, "--x+="}, {"--x+=" + v, "--x+="}, {"--x=" + v[:38], "--x+=12"}, {"--x+=" + v[:38], "--x+=12"}, {"--x+=", "--x+=" + v}, {"--no-x", "--x+=" + v, "--x+="}, {"--x=" + v, "--x+=1", "--y=2"}, {"--x=" + v, "--x+=1", "--a.x=2"}, {"--x=1", "--x+=" + v, "--x+=3"},
		slices.Repeat([]string{"--x+="}, 42), slices.Repeat([]string{"--x+="}, 1000), manyArgs("a", 0, 21), append(manyArgs("a", 0, 20), "--no-x"), append(manyArgs("", 0, 20), manyArgs("a", 0, 20)...), append(manyArgs("a", 0, 21), "--no-a.ka"), append(manyArgs("a", 0, 20), "--no-a.ka", "--x=1"),
	} {
		l, ok := impl.ArgLayer(args)
		checkLayer(t, "ArgLayer of "+strings.Join(args[:min(len(args), 10)], " "), l, ok, nil, false)
	}
	full := manyArgs("a", 0, 20)
	l, ok := impl.ArgLayer(full)
	checkLayer(t, "ArgLayer of 20 arguments", l, ok, manyKeys("a", 0, 20).Entries, true)
	l, ok = impl.ArgLayer(append(full, "--a.kb+=2", "--no-a.ka", "--a.ka=3"))
	want := manyKeys("a", 0, 20).Entries
	want[0].Value, want[1].Value = "3", "1,2"
	checkLayer(t, "ArgLayer of 23 arguments", l, ok, want, true)
	soon(t, "ArgLayer", func() {
		args := append(slices.Repeat([]string{"--x+=" + v}, 200000), "--x=1")
		l, ok := impl.ArgLayer(args)
		checkLayer(t, "ArgLayer of many arguments", l, ok, lay("x=1").Entries, true)
		l, ok = impl.ArgLayer(args[:len(args)-1])
		checkLayer(t, "ArgLayer of many arguments", l, ok, nil, false)
	})
}

func TestArgumentsThatAreNone(t *testing.T) {
	for _, s := range noArgs {
		for _, args := range [][]string{{s}, {s, "--x=1"}, {"--x=1", s}, {"--x=1", s, "--x=2", "--no-y"}, {s, s}, append(manyArgs("", 0, 20), s)} {
			l, ok := impl.ArgLayer(args)
			if checkLayer(t, "ArgLayer", l, ok, nil, false); t.Failed() {
				t.Fatalf("with the argument %q", s)
			}
		}
	}
}

func TestSurroundingsInOrder(t *testing.T) {
	for _, c := range []struct {
		list []string
		want impl.Layer
	}{
		{nil, impl.Layer{}},
		{[]string{""}, impl.Layer{}},
		{[]string{"X=1"}, lay("x=1")},
		{[]string{"X=1", "X=2"}, lay("x=2")},
		{[]string{"X=1", "A_X=2", "Y=3", "X=4", "A_X="}, lay("x=4", "a.x=", "y=3")},
		{[]string{"A_X=1", "bad", "A_X=2", "K=3"}, lay("a.x=2", "k=3")},
		{[]string{"X=1", "X= 2", "X=3 ", "x=4", "X", "X=é"}, lay("x=1")},
		{[]string{"HOME=/home/ann", "LS_COLORS=", "_=/bin/env", "A_B_C=1", "TERM=", "XDG_ID=7"}, lay("home=/home/ann", "ls.colors=", "term=", "xdg.id=7")},
		{[]string{"X=" + strings.Repeat("v", 41), "X=" + strings.Repeat("v", 40)}, lay("x=" + strings.Repeat("v", 40))},
		{[]string{"X=1", "X=" + strings.Repeat("v", 41)}, lay("x=1")},
		{[]string{"BASE=a", "BASE_BASE=b", "B_BASE=c"}, lay("base=a", "base.base=b", "b.base=c")},
		{slices.Repeat([]string{"X=1", "none", "X=2"}, 1000), lay("x=2")},
	} {
		l, ok := impl.EnvLayer(c.list)
		checkLayer(t, "EnvLayer of "+strings.Join(c.list[:min(len(c.list), 10)], " "), l, ok, c.want.Entries, true)
	}
}

func TestSurroundingsUpToTheLimit(t *testing.T) {
	full := manyEnvs("a", 0, 20)
	for _, more := range [][]string{nil, {"A_KA=1"}, noEnvs, manyEnvs("a", 0, 20)} {
		l, ok := impl.EnvLayer(append(slices.Clone(full), more...))
		checkLayer(t, "EnvLayer of 20 entries", l, ok, manyKeys("a", 0, 20).Entries, true)
	}
	for _, more := range [][]string{{"X=1"}, {"KA=1"}, {"A_X="}, {"none", "X=1", "A_KA=1"}, manyEnvs("b", 0, 26)} {
		l, ok := impl.EnvLayer(append(slices.Clone(full), more...))
		checkLayer(t, "EnvLayer with "+strings.Join(more, " "), l, ok, nil, false)
		l, ok = impl.EnvLayer(append(slices.Clone(more), full...))
		checkLayer(t, "EnvLayer with "+strings.Join(more, " "), l, ok, nil, false)
	}
}

func TestSurroundingsThatAreNone(t *testing.T) {
	l, ok := impl.EnvLayer(noEnvs)
	checkLayer(t, "EnvLayer", l, ok, nil, true)
	for _, s := range noEnvs {
		for _, list := range [][]string{{s, "X=1"}, {"X=1", s}, {s, s, "X=1", s}} {
			l, ok := impl.EnvLayer(list)
			if checkLayer(t, "EnvLayer", l, ok, lay("x=1").Entries, true); t.Failed() {
				t.Fatalf("with %q", s)
			}
		}
	}
}

// checkStack checks what StackOf and RunDesk tell of a case, by the layers it has to have, none if there is no stack.
func checkStack(t *testing.T, c deskCase, want []impl.Layer) {
	t.Helper()
	stack, ok := impl.StackOf(c.file, c.env, c.args)
	if ok != (want != nil) || len(stack) != len(want) {
		t.Fatalf("StackOf(%+v) = %+v, %v; want %+v", c, stack, ok, want)
	}
	for i, l := range stack {
		checkLayer(t, "a layer of StackOf", l, true, want[i].Entries, true)
	}
	if wrong := impl.RunDesk(c.file, c.env, c.args, []string{"what", "list"}) == "wrong\nwrong\n"; wrong == ok {
		t.Errorf("RunDesk(%+v) answers wrong: %v", c, wrong)
	}
}

func TestStacksOfThreeLayers(t *testing.T) {
	for _, c := range []struct {
		deskCase
		want []impl.Layer
	}{
		{deskCase{}, layers("", "", "")},
		{deskCase{"x=1\n", nil, nil}, layers("", "", "x=1")},
		{deskCase{"", []string{"X=1"}, nil}, layers("", "x=1", "")},
		{deskCase{"", nil, []string{"--x=1"}}, layers("x=1", "", "")},
		{deskCase{"", nil, []string{"--x+=1", "--no-y"}}, layers("x+1 y-", "", "")},
		{deskCase{"", []string{"none"}, nil}, layers("", "", "")},
		{deskCase{"# n\n[a]\nx=1\n\nx=2\n[b]\n", []string{"A_X=3", "Y=4"}, []string{"--a.x+=5", "--no-y"}}, layers("a.x+5 y-", "a.x=3 y=4", "a.x=2")},
		{deskCase{"y=1\nx=2\n[a]\n", []string{"x", "X=3"}, []string{"--y+=1", "--y+=2"}}, layers("y+1,2", "x=3", "y=1 x=2")},
		{deskCase{"x", nil, nil}, nil},
		{deskCase{"x=1", nil, nil}, nil},
		{deskCase{strings.Repeat("\n", 21), nil, nil}, nil},
		{deskCase{strings.Repeat("\n", 20), nil, nil}, layers("", "", "")},
		{deskCase{"", nil, []string{"x"}}, nil},
		{deskCase{"", nil, []string{""}}, nil},
		{deskCase{"x=1\n", nil, []string{"--x=1", "--x"}}, nil},
		{deskCase{"", manyEnvs("", 0, 21), nil}, nil},
		{deskCase{"", nil, manyArgs("", 0, 21)}, nil},
		{deskCase{"x", manyEnvs("", 0, 21), []string{"x"}}, nil},
	} {
		checkStack(t, c.deskCase, c.want)
	}
}

func TestStacksThatAreTooGreat(t *testing.T) {
	full, v := keyLines(0, 20), strings.Repeat("v", 40)
	keys := manyKeys("", 0, 20)
	for _, c := range []struct {
		deskCase
		want []impl.Layer
	}{
		{deskCase{full, nil, nil}, []impl.Layer{{}, {}, keys}},
		{deskCase{full, manyEnvs("", 0, 20), manyArgs("", 0, 20)}, []impl.Layer{keys, keys, keys}},
		{deskCase{full, []string{"X=1"}, nil}, nil},
		{deskCase{full, []string{"x"}, nil}, []impl.Layer{{}, {}, keys}},
		{deskCase{full, nil, []string{"--x=1"}}, nil},
		{deskCase{full, nil, []string{"--x+=1"}}, nil},
		{deskCase{full, nil, []string{"--no-x"}}, []impl.Layer{lay("x-"), {}, keys}},
		{deskCase{full, []string{"X=1"}, []string{"--no-x"}}, []impl.Layer{lay("x-"), lay("x=1"), keys}},
		{deskCase{full, []string{"X=1"}, []string{"--no-ka"}}, []impl.Layer{lay("ka-"), lay("x=1"), keys}},
		{deskCase{full, []string{"X=1", "Y=1"}, []string{"--no-ka"}}, nil},
		{deskCase{full, []string{"X=1", "Y=1"}, []string{"--no-ka", "--no-y"}}, []impl.Layer{lay("ka-", "y-"), lay("x=1", "y=1"), keys}},
		{deskCase{full, nil, []string{"--no-ka", "--a.ka=1"}}, []impl.Layer{lay("ka-", "a.ka=1"), {}, keys}},
		{deskCase{"", manyEnvs("", 0, 20), nil}, []impl.Layer{{}, keys, {}}},
		{deskCase{"x=1\n", manyEnvs("", 0, 20), nil}, nil},
		{deskCase{keyLines(0, 7), manyEnvs("", 7, 7), manyArgs("", 14, 6)}, []impl.Layer{manyKeys("", 14, 6), manyKeys("", 7, 7), manyKeys("", 0, 7)}},
		{deskCase{keyLines(0, 7), manyEnvs("", 7, 7), manyArgs("", 14, 7)}, nil},
		{deskCase{"x=" + v + "\n", nil, nil}, layers("", "", "x="+v)},
		{deskCase{"x=" + v + "\n", nil, []string{"--x+="}}, nil},
		{deskCase{"x=" + v + "\n", []string{"X="}, []string{"--x+=" + v[:39]}}, layers("x+"+v[:39], "x=", "x="+v)},
		{deskCase{"x=" + v + "\n", []string{"X="}, []string{"--x+=" + v}}, nil},
		{deskCase{"x=" + v + "\n", []string{"X=" + v}, []string{"--x+=" + v, "--no-x"}}, layers("x-", "x="+v, "x="+v)},
		{deskCase{"x=" + v[:38] + "\n", nil, []string{"--x+=1"}}, layers("x+1", "", "x="+v[:38])},
		{deskCase{"x=" + v[:38] + "\n", nil, []string{"--x+=12"}}, nil},
		{deskCase{"x=" + v[:38] + "\n", []string{"X=" + v[:36]}, []string{"--x+=1", "--x+=2"}}, layers("x+1,2", "x="+v[:36], "x="+v[:38])},
		{deskCase{"x=" + v[:38] + "\n", []string{"X=" + v[:37]}, []string{"--x+=1", "--x+=2"}}, nil},
	} {
		checkStack(t, c.deskCase, c.want)
	}
}

// checkDesk checks the answers of a desk to lines.
func checkDesk(t *testing.T, c deskCase, answers [][2]string) {
	t.Helper()
	for _, a := range answers {
		if got := impl.RunDesk(c.file, c.env, c.args, []string{a[0]}); got != a[1]+"\n" {
			t.Errorf("RunDesk of %q = %q; want %q", a[0], got, a[1])
		}
	}
}

func TestAnswersOfDesks(t *testing.T) {
	c := deskCase{"x=1\ny=\n[a]\nbase = b\nx = ${y}-${:x}\nz=$\n[b]\nw=1\nbase=no\n[no]\nno=7\n", []string{"X=2", "none", "B_W=${:gone}", "B_V=$$${a:x}", "Q=9"}, []string{"--x+=3", "--no-q", "--b.v+=4", "--a.y=5", "--a.no+=8", "--b.cyc=${cyc}"}}
	checkDesk(t, c, [][2]string{
		{"list", "x y a.base a.x a.z b.w b.base no.no b.v a.y a.no b.cyc"},
		{"raw x", "is 2,3"}, {"raw y", "is "}, {"raw a.base", "is b"}, {"raw a.x", "is ${y}-${:x}"}, {"raw a.z", "is $"}, {"raw b.w", "is ${:gone}"}, {"raw b.v", "is $$${a:x},4"}, {"raw a.y", "is 5"}, {"raw a.no", "is 8"}, {"raw no.no", "is 7"}, {"raw q", "missing"}, {"raw a.w", "missing"}, {"raw b.no", "missing"}, {"raw c.c", "missing"}, {"raw no", "missing"}, {"raw b.cyc", "is ${cyc}"},
		{"get x", "is 2,3"}, {"get y", "is "}, {"get a.base", "is b"}, {"get a.x", "is 5-2,3"}, {"get a.z", "bad"}, {"get a.w", "missing"}, {"get b.w", "missing"}, {"get b.v", "is $5-2,3,4"}, {"get a.v", "is $5-2,3,4"}, {"get a.no", "is 8"}, {"get b.no", "is 7"}, {"get q", "missing"}, {"get b.x", "missing"}, {"get b.cyc", "cycle"}, {"get a.cyc", "cycle"}, {"get b.base", "is no"}, {"get no.base", "missing"}, {"get c.x", "missing"},
		{"why x", "args env"}, {"why y", "file"}, {"why a.x", "file"}, {"why b.w", "env"}, {"why b.v", "args env"}, {"why q", "args"}, {"why a.y", "args"}, {"why a.no", "args"}, {"why no.no", "file"}, {"why a.w", "nobody"}, {"why b.no", "nobody"}, {"why base", "nobody"}, {"why c.c", "nobody"},
		{"from x", "[]"}, {"from a.x", "[a]"}, {"from a.w", "[b]"}, {"from a.v", "[b]"}, {"from a.no", "[a]"}, {"from b.no", "[no]"}, {"from no.no", "[no]"}, {"from a.base", "[a]"}, {"from no.base", "missing"}, {"from q", "missing"}, {"from b.x", "missing"}, {"from c.c", "missing"}, {"from no", "missing"},
	})
	checkDesk(t, deskCase{"[a]\nx=1\n[b]\nbase=a\n", nil, []string{"--a.x+=2", "--no-b.base"}}, [][2]string{{"list", "a.x"}, {"why a.x", "args file"}, {"why b.base", "args"}, {"from b.x", "missing"}, {"get a.x", "is 1,2"}})
	checkDesk(t, deskCase{"x=1\n", []string{"X=2"}, []string{"--x=3"}}, [][2]string{{"list", "x"}, {"why x", "args"}, {"raw x", "is 3"}})
	checkDesk(t, deskCase{"x=1\n", []string{"X=2"}, []string{"--x+=3"}}, [][2]string{{"why x", "args env"}, {"raw x", "is 2,3"}})
	checkDesk(t, deskCase{}, [][2]string{{"list", ""}, {"raw x", "missing"}, {"get x", "missing"}, {"why x", "nobody"}, {"from x", "missing"}, {"x", "what"}})
}

func TestAnswersOfLongTexts(t *testing.T) {
	file := "a=" + strings.Repeat("v", 40) + "\nb=${a}${a}${a}\nc=${b}1\nd=${a}$$\n[s]\ne=${:c}\n"
	checkDesk(t, deskCase{file, nil, []string{"--c=${b}", "--d+=${c}"}}, [][2]string{{"get b", "is " + strings.Repeat("v", 120)}, {"get c", "is " + strings.Repeat("v", 120)}, {"get d", "long"}, {"get s.e", "is " + strings.Repeat("v", 120)}, {"raw d", "is ${a}$$,${c}"}})
	checkDesk(t, deskCase{file, []string{"S_BASE=q"}, nil}, [][2]string{{"get c", "long"}, {"get s.e", "long"}, {"get d", "is " + strings.Repeat("v", 40) + "$"}, {"raw c", "is ${b}1"}, {"from s.e", "[s]"}, {"get s.base", "is q"}})
}

func TestOtherLinesOfDesks(t *testing.T) {
	c := deskCase{"x=1\n[a]\nx=1\nlist=1\nraw=1\n", nil, nil}
	for _, line := range []string{
		"", " ", "x", "a.x", "help", "list ", " list", "list x", "list list", "List", "LIST", "lis", "listx", "list\n", "raw", "get", "why", "from", "raw ", "get ", "why ", "from ", " raw x", "raw  x", "raw x ", "raw x x", "raw x a.x", "raw\tx", "raw\nx", "raw x\n", "rawx", "raw.x", "raw=x", "Raw x", "RAW x", "ra x", "raws x", "gets x", "whys x", "froms x",
		"set x", "set x = 1", "drop x", "args x", "what x", "wrong", "is x", "raw X", "raw a.X", "raw A.x", "raw .x", "raw a.", "raw .", "raw a.b.x", "raw a..x", "raw a:x", "raw [a]x", "raw abcdefghi", "raw a.abcdefghi", "raw abcdefghi.x", "raw x=1", "get ${x}", "get x1", "why é", "why x\xff", "why -", "from a", "from [a]", "from a x", "get get x", "get\u00a0x", strings.Repeat("raw x ", 100000), "raw " + strings.Repeat("x", 1000000),
	} {
		want := "what\n"
		if line == "from a" {
			want = "missing\n"
		}
		if got := impl.RunDesk(c.file, c.env, c.args, []string{line}); got != want {
			t.Errorf("RunDesk of %q = %q; want %q", line[:min(len(line), 100)], got, want)
		}
	}
	checkDesk(t, c, [][2]string{{"raw a.list", "is 1"}, {"raw a.raw", "is 1"}, {"get list", "missing"}, {"why raw", "nobody"}, {"list", "x a.x a.list a.raw"}})
}

func TestDesksUpToTheLimit(t *testing.T) {
	good, bad := deskCase{"x=1\n", nil, nil}, deskCase{"x", nil, nil}
	for _, n := range []int{0, 1, 19, 20, 21, 22, 1000} {
		lines := slices.Repeat([]string{"raw x"}, n)
		want, wrong, what := strings.Repeat("is 1\n", n), strings.Repeat("wrong\n", n), strings.Repeat("what\n", n)
		if n > 20 {
			want, wrong, what = "", "", ""
		}
		if got := impl.RunDesk(good.file, good.env, good.args, lines); got != want {
			t.Errorf("RunDesk of %d lines = %q", n, got)
		}
		if got := impl.RunDesk(good.file, good.env, good.args, make([]string, n)); got != what {
			t.Errorf("RunDesk of %d lines of nothing = %q", n, got)
		}
		if got := impl.RunDesk(bad.file, bad.env, bad.args, lines); got != wrong {
			t.Errorf("RunDesk of %d lines without a stack = %q", n, got)
		}
	}
}

func TestDesksWithoutAStack(t *testing.T) {
	lines := []string{"list", "raw x", "get x", "why x", "from x", "help", ""}
	full := keyLines(0, 20)
	for _, c := range []deskCase{{"x", nil, nil}, {"x=1", nil, nil}, {"x=1\n", nil, []string{"x"}}, {"x=1\n", []string{"X=1"}, []string{"--x=1", ""}}, {full, []string{"X=1"}, nil}, {full, nil, []string{"--x+=1"}}, {"", manyEnvs("a", 0, 21), nil}, {"", nil, manyArgs("a", 0, 21)}, {"x=" + strings.Repeat("v", 40) + "\n", nil, []string{"--x+="}}} {
		if got := impl.RunDesk(c.file, c.env, c.args, lines); got != strings.Repeat("wrong\n", 7) {
			t.Errorf("RunDesk(%+v) = %q", c, got)
		}
	}
}

func TestAllDesks(t *testing.T) {
	random := rand.New(rand.NewSource(17))
	good, bad, answers := 0, 0, map[string]int{}
	eachDesk(t, func(t *testing.T, c deskCase) {
		args, hasArgs := wantArgs(c.args)
		l, ok := impl.ArgLayer(c.args)
		checkLayer(t, "ArgLayer", l, ok, args, hasArgs)
		env, hasEnv := wantEnvs(c.env)
		l, ok = impl.EnvLayer(c.env)
		checkLayer(t, "EnvLayer", l, ok, env, hasEnv)
		want, _, can := wantStack(c)
		if checkStack(t, c, want); can {
			good++
		} else {
			bad++
		}
		for _, n := range []int{20, 20, random.Intn(22)} {
			lines := someLines(random, n)
			want, got := wantDesk(c, lines), impl.RunDesk(c.file, c.env, c.args, lines)
			if got != want {
				t.Errorf("RunDesk of %q = %q; want %q", lines, got, want)
			}
			for _, a := range strings.Split(want, "\n") {
				answers[a]++
			}
		}
	})
	enough(t, "cases have stacks", good, 1000)
	enough(t, "cases have none", bad, 300)
	for a, least := range map[string]int{"wrong": 1000, "what": 1000, "missing": 1000, "bad": 200, "cycle": 200, "long": 50, "nobody": 1000, "args": 500, "env": 500, "file": 500, "args env": 100, "args file": 100, "[]": 500, "[a]": 500, "[no]": 500, "is ": 200} {
		enough(t, "answers are "+a, answers[a], least)
	}
}

func TestDesksShareNoMemory(t *testing.T) {
	wholeEnv, wholeArgs := append([]string{"X=1", "none", "Y=2", "X=3"}, make([]string, 8)...), append([]string{"--x+=4", "--a.y=5", "--no-y", "--x+=6"}, make([]string, 8)...)
	wholeLines := append([]string{"list", "get x", "why y"}, make([]string, 8)...)
	env, args, lines := wholeEnv[:4], wholeArgs[:4], wholeLines[:3]
	beforeEnv, beforeArgs, beforeLines := slices.Clone(wholeEnv), slices.Clone(wholeArgs), slices.Clone(wholeLines)
	wantTop, wantMiddle, wantLow := lay("x+4,6", "a.y=5", "y-").Entries, lay("x=3", "y=2").Entries, lay("a.z=7", "a.x=8").Entries
	for range 2 {
		top, ok := impl.ArgLayer(args)
		checkLayer(t, "ArgLayer", top, ok, wantTop, true)
		middle, ok := impl.EnvLayer(env)
		checkLayer(t, "EnvLayer", middle, ok, wantMiddle, true)
		stack, ok := impl.StackOf("[a]\nz=7\nx=8\n", env, args)
		if !ok || len(stack) != 3 {
			t.Fatalf("StackOf = %+v, %v", stack, ok)
		}
		for i, l := range []impl.Layer{top, middle, stack[0], stack[1], stack[2]} {
			checkLayer(t, "a layer", l, true, [][]impl.Entry{wantTop, wantMiddle, wantTop, wantMiddle, wantLow}[i], true)
			for j := range l.Entries[:cap(l.Entries)] {
				l.Entries[:cap(l.Entries)][j].Value = "changed"
			}
		}
		for i := range stack[:cap(stack)] {
			stack[:cap(stack)][i] = impl.Layer{}
		}
		if got := impl.RunDesk("[a]\nz=7\nx=8\n", env, args, lines); got != "a.z a.x x a.y\nis 3,4,6\nargs\n" {
			t.Errorf("RunDesk = %q", got)
		}
		if !slices.Equal(wholeEnv, beforeEnv) || !slices.Equal(wholeArgs, beforeArgs) || !slices.Equal(wholeLines, beforeLines) {
			t.Fatalf("the surroundings are %q, the arguments %q, the lines %q", wholeEnv, wholeArgs, wholeLines)
		}
	}
}
