package tests

import (
	"slices"
	"strings"
	"testing"

	"loop.example/settinglayers/impl"
)

// places returns the references told as keys, or as sections, points and keys, with spaces between them.
func places(told string) []impl.Ref {
	var refs []impl.Ref
	for _, s := range strings.Fields(told) {
		r := impl.Ref{Key: s}
		if section, key, ok := strings.Cut(s, "."); ok {
			r = impl.Ref{Section: section, Key: key}
		}
		refs = append(refs, r)
	}
	return refs
}

// otherSections are texts that are no sections.
func otherSections() []string {
	return []string{"abcdefghi", "A", "a1", " ", "a ", " a", "a:", "a.b", "$", "[a]", "é", "a\xff", "a\n", "\x00"}
}

// otherValues are texts that are no values.
func otherValues() []string {
	v := strings.Repeat("v", 40)
	return []string{v + "v", v + "$", v[:37] + "${x}", strings.Repeat("${x}", 10) + "1", " ", " 1", "1 ", "${x} ", " ${x}", "$$ ", "1\n", "${x}\t", "\x7f", "é", "${x}\xff", "\x00"}
}

func TestLimitsOfReferences(t *testing.T) {
	if impl.MaxLong != 120 {
		t.Error("the limit is not that of the document")
	}
	if impl.ExOk != 0 || impl.ExBad != 1 || impl.ExMissing != 2 || impl.ExCycle != 3 || impl.ExLong != 4 {
		t.Error("how texts are made is not that of the document")
	}
}

func TestRefsOfValues(t *testing.T) {
	for text, want := range map[string]string{
		"": "", "1": "", "$$": "", "$$$$": "", "a$$b": "", "$${x}": "", "{x}": "", "a:x": "", "}{": "", "$$$${:x}": "",
		"${x}": "a.x", "${a:x}": "a.x", "${:x}": "x", "${b:x}": "b.x", "${x}${x}": "a.x a.x", "${x}${a:x}${:x}": "a.x a.x x",
		"$$${x}": "a.x", "${x}$$": "a.x", "${x}}": "a.x", "{${x}}": "a.x", "1 ${x} 2 ${b:y} 3": "a.x b.y", "$${y}${x}$${z}": "a.x",
		"${abcdefgh}": "a.abcdefgh", "${abcdefgh:abcdefgh}": "abcdefgh.abcdefgh", "${b:y}${a:x}${z}": "b.y a.x a.z",
	} {
		got, ok := impl.RefsOf("a", text)
		if checkRefs(t, "RefsOf "+text, got, places(want)); !ok {
			t.Errorf("RefsOf(%q) fails", text)
		}
	}
	own, _ := impl.RefsOf("", "${x}${:x}${b:x}")
	checkRefs(t, "RefsOf in the section of no name", own, places("x x b.x"))
	own, _ = impl.RefsOf("abcdefgh", "${x}${:x}${abcdefgh:x}")
	checkRefs(t, "RefsOf in a long section", own, places("abcdefgh.x x abcdefgh.x"))
}

func TestRefsOfOtherTexts(t *testing.T) {
	for _, text := range []string{
		"$", "1$", "$1", "$$$", "$ ${x}", "${x}$", "$x", "${", "${x", "${x$}", "${x${y}", "$}", "$}x{", "${}", "${:}", "${a:}", "${::x}", "${a::x}", "${a:b:c}", "${:a:x}", "${x:}",
		"${X}", "${A:x}", "${a:X}", "${x1}", "${a.x}", "${ x}", "${x }", "${a: x}", "${a :x}", "${ :x}", "${abcdefghi}", "${a:abcdefghi}", "${abcdefghi:x}", "${$$}", "${$$x}", "${x$$}", "$ {x}", "$$${", "${y}${x",
	} {
		if got, ok := impl.RefsOf("a", text); ok || len(got) != 0 {
			t.Errorf("RefsOf(%q) = %+v, %v", text, got, ok)
		}
	}
	for _, text := range otherValues() {
		if got, ok := impl.RefsOf("a", text); ok || len(got) != 0 {
			t.Errorf("RefsOf(%q) = %+v, %v", text, got, ok)
		}
	}
	for _, s := range otherSections() {
		for _, text := range []string{"", "1", "${x}", "${a:x}"} {
			if got, ok := impl.RefsOf(s, text); ok || len(got) != 0 {
				t.Errorf("RefsOf(%q, %q) = %+v, %v", s, text, got, ok)
			}
		}
	}
}

func TestEscapeTextTwice(t *testing.T) {
	for text, want := range map[string]string{
		"": "", "1": "1", "$": "$$", "$$": "$$$$", "a$b$": "a$$b$$", "${x}": "$${x}", "a  b": "a  b", strings.Repeat("$", 40): strings.Repeat("$", 80),
	} {
		if got := impl.EscapeText(text); got != want {
			t.Errorf("EscapeText(%q) = %q", text, got)
		}
	}
	for _, text := range otherValues() {
		if got := impl.EscapeText(text); got != "" {
			t.Errorf("EscapeText(%q) = %q", text, got)
		}
	}
}

func TestRefTextInSections(t *testing.T) {
	for _, c := range [][4]string{
		{"", "", "x", "${x}"}, {"", "a", "x", "${a:x}"}, {"a", "a", "x", "${x}"}, {"a", "", "x", "${:x}"}, {"a", "b", "x", "${b:x}"}, {"a", "x", "a", "${x:a}"},
		{"abcdefgh", "abcdefgh", "abcdefgh", "${abcdefgh}"}, {"abcdefgh", "abcdefg", "abcdefgh", "${abcdefg:abcdefgh}"},
		{"a", "a", "", ""}, {"a", "", "", ""}, {"a", "b", "", ""}, {"", "", "", ""}, {"a", "a", "X", ""}, {"a", "A", "x", ""}, {"a", "a", "abcdefghi", ""}, {"a", "b", "a.x", ""}, {"a", "b", "x}", ""}, {"a", "b:", "x", ""},
	} {
		if got := impl.RefText(c[0], impl.Ref{Section: c[1], Key: c[2]}); got != c[3] {
			t.Errorf("RefText(%q) = %q", c, got)
		}
	}
	for _, s := range otherSections() {
		for _, r := range [][2]impl.Ref{{{Section: s, Key: "x"}, {Section: "a", Key: "x"}}, {{Section: "a", Key: s}, {Key: "x"}}} {
			if got := impl.RefText("a", r[0]) + impl.RefText(s, r[0]) + impl.RefText(s, r[1]); got != "" {
				t.Errorf("RefText of %q = %q", s, got)
			}
		}
	}
}

func TestRetellTextInSections(t *testing.T) {
	for _, c := range [][4]string{
		{"a", "b", "", ""}, {"a", "b", "1", "1"}, {"a", "b", "$$", "$$"}, {"a", "b", "$${x}", "$${x}"},
		{"a", "b", "${x}", "${a:x}"}, {"a", "b", "${a:x}", "${a:x}"}, {"a", "b", "${b:x}", "${x}"}, {"a", "b", "${:x}", "${:x}"}, {"a", "b", "${c:x}", "${c:x}"},
		{"a", "a", "${x}", "${x}"}, {"a", "a", "${a:x}", "${x}"}, {"a", "a", "${:x}", "${:x}"}, {"", "", "${:x}", "${x}"}, {"", "", "${x}", "${x}"},
		{"", "a", "${x}", "${:x}"}, {"", "a", "${:x}${a:x}", "${:x}${x}"}, {"a", "", "${x}", "${a:x}"}, {"a", "", "${:x}${x}", "${x}${a:x}"},
		{"a", "b", "1$$${x}  $$$$${b:y}$${z}", "1$$${a:x}  $$$$${y}$${z}"}, {"a", "abcdefgh", strings.Repeat("${x}", 10), strings.Repeat("${a:x}", 10)},
		{"abcdefgh", "a", strings.Repeat("${x}", 10), strings.Repeat("${abcdefgh:x}", 10)},
		// These have no RefsOf.
		{"a", "b", "$", "$"}, {"a", "b", "${x}$", "${x}$"}, {"a", "b", "${x", "${x"}, {"a", "b", "${a:x}${}", "${a:x}${}"}, {"a", "a", "${a:x}${X}", "${a:x}${X}"},
	} {
		if got := impl.RetellText(c[0], c[1], c[2]); got != c[3] {
			t.Errorf("RetellText(%q) = %q", c, got)
		}
	}
	for _, text := range otherValues() {
		if got := impl.RetellText("a", "b", text) + impl.RetellText("a", "a", text); got != "" {
			t.Errorf("RetellText(%q) = %q", text, got)
		}
	}
	for _, s := range otherSections() {
		for _, text := range []string{"1", "$", "${x}", "${b:x}"} {
			if got := impl.RetellText(s, "a", text) + impl.RetellText("a", s, text) + impl.RetellText(s, s, text); got != "" {
				t.Errorf("RetellText(%q, %q) = %q", s, text, got)
			}
		}
	}
}

func TestTextsOfReferences(t *testing.T) {
	for _, s := range []string{"", "a", "b", "abcdefgh", "A", "abcdefghi"} {
		for _, text := range refTexts() {
			if t.Failed() {
				return
			}
			want, wantOK := wantRefs(s, text)
			got, ok := impl.RefsOf(s, text)
			if checkRefs(t, "RefsOf "+text, got, want); ok != wantOK {
				t.Errorf("RefsOf(%q, %q) = %v", s, text, ok)
			}
			for _, into := range []string{"", "a", "b", "A"} {
				if got := impl.RetellText(s, into, text); got != wantRetold(s, into, text) {
					t.Errorf("RetellText(%q, %q, %q) = %q; want %q", s, into, text, got, wantRetold(s, into, text))
				}
			}
		}
		for _, r := range someRefs() {
			if got := impl.RefText(s, r); got != wantRefText(s, r) {
				t.Errorf("RefText(%q, %+v) = %q", s, r, got)
			}
		}
	}
}

func TestTextsWithoutReferences(t *testing.T) {
	for _, text := range refTexts() {
		want := ""
		if valueForm.MatchString(text) {
			want = strings.Join(strings.Split(text, "$"), "$$")
		}
		if got := impl.EscapeText(text); got != want {
			t.Errorf("EscapeText(%q) = %q; want %q", text, got, want)
		}
	}
}

func TestReferencesShareNoMemory(t *testing.T) {
	for range 2 {
		got, ok := impl.RefsOf("a", "${x}${b:y}")
		if !ok || !slices.Equal(got, places("a.x b.y")) {
			t.Errorf("RefsOf = %+v, %v", got, ok)
		}
		got[0].Key = "changed"
	}
}
