package tests

import (
	"math/rand"
	"regexp"
	"slices"
	"strings"
	"testing"
	"time"

	"loop.example/settinglayers/impl"
)

// The grammar of texts with references as patterns; they share nothing with the program's reader.
var (
	refsForm = regexp.MustCompile(`^([^$]|\$\$|\$\{(([a-z]{1,8})?:)?[a-z]{1,8}\})*$`)
	refForm  = regexp.MustCompile(`\$\$|\$\{([a-z]*:)?([a-z]+)\}`)
)

func spotRef(p spot) impl.Ref {
	return impl.Ref{Section: p.section, Key: p.key}
}

// entryRef returns the place of an entry.
func entryRef(e impl.Entry) impl.Ref {
	return spotRef(spotOf(e))
}

// isSection reports whether a text is "" or a name.
func isSection(s string) bool {
	return s == "" || nameForm.MatchString(s)
}

// isPlace reports whether a reference is one to a place.
func isPlace(r impl.Ref) bool {
	return isSection(r.Section) && nameForm.MatchString(r.Key)
}

// textParts returns a text cut at its references and at each $$, and whether it is one with references.
func textParts(s, text string) ([]string, bool) {
	if !isSection(s) || !valueForm.MatchString(text) || !refsForm.MatchString(text) {
		return nil, false
	}
	var parts []string
	end := 0
	for _, at := range refForm.FindAllStringIndex(text, -1) {
		parts = append(parts, text[end:at[0]], text[at[0]:at[1]])
		end = at[1]
	}
	return append(parts, text[end:]), true
}

// partRef returns the reference that a part of a text is in a section.
func partRef(s, part string) (impl.Ref, bool) {
	m := refForm.FindStringSubmatch(part)
	if m == nil || m[2] == "" {
		return impl.Ref{}, false
	}
	if m[1] != "" {
		s = strings.TrimSuffix(m[1], ":")
	}
	return impl.Ref{Section: s, Key: m[2]}, true
}

// wantRefs returns what RefsOf has to tell.
func wantRefs(s, text string) ([]impl.Ref, bool) {
	parts, ok := textParts(s, text)
	var refs []impl.Ref
	for _, part := range parts {
		if r, is := partRef(s, part); is {
			refs = append(refs, r)
		}
	}
	return refs, ok
}

// entryRefs returns the references of an entry.
func entryRefs(e impl.Entry) []impl.Ref {
	refs, _ := wantRefs(e.Section, e.Value)
	return refs
}

// wantRefText returns what RefText has to tell.
func wantRefText(s string, r impl.Ref) string {
	switch {
	case !isSection(s) || !isPlace(r):
		return ""
	case s == r.Section:
		return "${" + r.Key + "}"
	}
	return "${" + r.Section + ":" + r.Key + "}"
}

// rewritten returns a text with references that is written anew in a section, with the place to for from.
func rewritten(s, into, text string, from, to impl.Ref) string {
	return refForm.ReplaceAllStringFunc(text, func(part string) string {
		r, is := partRef(s, part)
		if !is {
			return part
		}
		if r == from {
			r = to
		}
		return wantRefText(into, r)
	})
}

// wantRetold returns what RetellText has to tell.
func wantRetold(s, into, text string) string {
	if !isSection(s) || !isSection(into) || !valueForm.MatchString(text) {
		return ""
	}
	if !refsForm.MatchString(text) {
		return text
	}
	return rewritten(s, into, text, impl.Ref{}, impl.Ref{})
}

// refEntry returns the entry of a layer at a place.
func refEntry(l impl.Layer, r impl.Ref) (impl.Entry, bool) {
	return wantEntry(l, spot{r.Section, r.Key})
}

// wantMade returns what ExpandText has to tell, behind the references on a way. Unlike
// the program it makes each value as often as it is needed.
func wantMade(l impl.Layer, s, text string, way []impl.Ref) (string, int) {
	parts, ok := textParts(s, text)
	if !ok {
		return "", impl.ExBad
	}
	made := ""
	for _, part := range parts {
		if r, is := partRef(s, part); !is {
			made += strings.ReplaceAll(part, "$$", "$")
		} else if value, how := wantMadeRef(l, r, way); how == impl.ExOk {
			made += value
		} else {
			return "", how
		}
		if len(made) > 120 {
			return "", impl.ExLong
		}
	}
	return made, impl.ExOk
}

// wantMadeRef returns what ExpandValue has to tell, behind the references on a way.
func wantMadeRef(l impl.Layer, r impl.Ref, way []impl.Ref) (string, int) {
	e, ok := refEntry(l, r)
	if !ok {
		return "", impl.ExMissing
	}
	if slices.Contains(way, r) {
		return "", impl.ExCycle
	}
	return wantMade(l, e.Section, e.Value, append(slices.Clip(way), r))
}

// wantAll returns the entries that ExpandAll has to lead to.
func wantAll(l impl.Layer) ([]impl.Entry, bool) {
	entries := slices.Clone(l.Entries)
	for i, e := range entries {
		value, how := wantMadeRef(l, entryRef(e), nil)
		if how != impl.ExOk {
			return nil, false
		}
		entries[i].Value = strings.ReplaceAll(value, "$", "$$")
	}
	return entries, wantValid(entries)
}

// wantMissing returns what MissingRefs has to tell.
func wantMissing(l impl.Layer) []impl.Ref {
	var refs []impl.Ref
	for _, e := range l.Entries {
		for _, r := range entryRefs(e) {
			if _, ok := refEntry(l, r); !ok && !slices.Contains(refs, r) {
				refs = append(refs, r)
			}
		}
	}
	return refs
}

// wantDepends returns what DependsOn has to tell. Unlike the program it keeps a list of what is to be looked at.
func wantDepends(l impl.Layer, r impl.Ref) []impl.Ref {
	e, _ := refEntry(l, r)
	var there []impl.Ref
	for open := entryRefs(e); len(open) > 0; {
		next := open[0]
		open = open[1:]
		if !slices.Contains(there, next) {
			there = append(there, next)
			e, _ := refEntry(l, next)
			open = append(entryRefs(e), open...)
		}
	}
	return there
}

// wantCyclic returns what CyclicKeys has to tell. Unlike the program it goes all ways of each length at once.
func wantCyclic(l impl.Layer) []impl.Ref {
	n := len(l.Entries)
	leads := make([][]bool, n)
	for i, e := range l.Entries {
		leads[i] = make([]bool, n)
		for _, r := range entryRefs(e) {
			if k := slices.IndexFunc(l.Entries, func(e impl.Entry) bool { return entryRef(e) == r }); k >= 0 {
				leads[i][k] = true
			}
		}
	}
	for over := range n {
		for i := range n {
			for k := range n {
				leads[i][k] = leads[i][k] || leads[i][over] && leads[over][k]
			}
		}
	}
	var keys []impl.Ref
	for i, e := range l.Entries {
		if leads[i][i] {
			keys = append(keys, entryRef(e))
		}
	}
	return keys
}

// wantUsers returns what UsersOf has to tell.
func wantUsers(l impl.Layer, r impl.Ref) []impl.Ref {
	var users []impl.Ref
	for _, e := range l.Entries {
		if slices.Contains(entryRefs(e), r) {
			users = append(users, entryRef(e))
		}
	}
	return users
}

// wantOrder returns what OrderOf has to tell.
func wantOrder(l impl.Layer) ([]int, bool) {
	var order []int
	for len(order) < len(l.Entries) {
		next := slices.IndexFunc(l.Entries, func(e impl.Entry) bool {
			for i, other := range l.Entries {
				same := other == e
				if slices.Contains(order, i) && same || !slices.Contains(order, i) && slices.Contains(entryRefs(e), entryRef(other)) {
					return false
				}
			}
			return true
		})
		if next < 0 {
			return nil, false
		}
		order = append(order, next)
	}
	return order, true
}

// wantMoved returns the entries that MoveKey has to lead to.
func wantMoved(l impl.Layer, from, to impl.Ref) ([]impl.Entry, bool) {
	_, has := refEntry(l, from)
	_, taken := refEntry(l, to)
	entries := slices.Clone(l.Entries)
	for i, e := range l.Entries {
		own := entryRef(e) == from
		if own {
			entries[i].Section, entries[i].Key = to.Section, to.Key
		}
		if _, ok := textParts(e.Section, e.Value); ok && (own || slices.Contains(entryRefs(e), from)) {
			entries[i].Value = rewritten(e.Section, entries[i].Section, e.Value, from, to)
		}
	}
	return entries, has && !taken && wantValid(entries)
}

// someRefs are places that refLayers have, some that only their references have, and some that are none.
func someRefs() []impl.Ref {
	list := []impl.Ref{{Key: "x"}, {Section: "a", Key: "x"}, {Section: "a", Key: "y"}, {Section: "b", Key: "z"}, {Section: "abcdefgh", Key: "abcdefgh"}, {Key: "y"}, {Section: "b", Key: "x"}, {Section: "c", Key: "new"}}
	for _, p := range someSpots[8:] {
		list = append(list, spotRef(p))
	}
	return list
}

// smallRefLayers returns the layers of up to three entries with a few values each.
func smallRefLayers() []impl.Layer {
	values := []string{"", "1", "$$", "a$", "${x}", "${y}", "${a:x}", "${:x}", "${b:z}", "${x}${y}", "$$${a:y}-${:x}${x}", "${a:x}${"}
	spots := []spot{{"", "x"}, {"a", "x"}, {"a", "y"}}
	list := []impl.Layer{{}}
	for i, u := range values {
		for j, v := range values {
			for k, w := range values {
				three := impl.Layer{}
				for n, value := range []string{u, v, w} {
					three.Entries = append(three.Entries, impl.Entry{Section: spots[n].section, Key: spots[n].key, Value: value})
				}
				if i == 0 {
					list = append(list, without(three, 0))
				}
				if i+j == 0 {
					list = append(list, without(without(three, 0), 0))
				}
				if (i+j+k)%2 == 0 {
					slices.Reverse(three.Entries)
				}
				list = append(list, three)
			}
		}
	}
	return list
}

// refLayerKinds is how many kinds of layers largeRefLayers makes: with references to
// all, only to those behind the key, only to those ahead of it, and with long values.
const refLayerKinds = 4

// largeRefLayers returns n layers of up to 20 entries with references, and with each kind as many.
func largeRefLayers(n int) []impl.Layer {
	random := rand.New(rand.NewSource(3))
	var list []impl.Layer
	for i := range n {
		l := impl.Layer{}
		for _, at := range random.Perm(24)[:1+random.Intn(20)] {
			e := impl.Entry{Section: []string{"", "a", "b", "abcdefgh"}[at%4], Key: []string{"x", "y", "z", "base", "abcdefgh", "q"}[at/4]}
			l.Entries = append(l.Entries, e)
		}
		for j := range l.Entries {
			to := l.Entries
			switch i % refLayerKinds {
			case 1:
				to = l.Entries[j+1:]
			case 2:
				to = l.Entries[:j]
			case 3:
				to = l.Entries[j+1:]
				l.Entries[j].Value = strings.Repeat("v", random.Intn(25))
			}
			room := min(20, 40-len(l.Entries[j].Value))
			l.Entries[j].Value += someText(random, l.Entries[j].Section, to, room, i%refLayerKinds == 0)
		}
		list = append(list, l)
	}
	return list
}

// someText returns a value of at most as many bytes as there is room for, with references to
// some entries, and with wild also such that are missing, and some that are none.
func someText(random *rand.Rand, s string, to []impl.Entry, room int, wild bool) string {
	text := ""
	refs := 0
	for range random.Intn(5) {
		n := random.Intn(60)
		part := "1"
		switch {
		case n < 30 && len(to) > 0 && refs < 2:
			r := entryRef(to[random.Intn(len(to))])
			part = wantRefText(s, r)
			if random.Intn(4) == 0 {
				part = "${" + r.Section + ":" + r.Key + "}"
			}
			refs++
		case n < 36:
			part = "$$"
		case n == 40 && wild:
			part = "${a:no}"
		case n == 41 && wild:
			part = "$"
		}
		if len(text)+len(part) <= room {
			text += part
		}
	}
	return text
}

// refLayers returns small and large layers with references.
func refLayers() []impl.Layer {
	return append(smallRefLayers(), largeRefLayers(1200)...)
}

// someRefLayers returns as many of refLayers as there is time for with each of many moves.
func someRefLayers() []impl.Layer {
	return append(smallRefLayers(), largeRefLayers(160)...)
}

// goodRefLayers returns those of refLayers in which all expands.
func goodRefLayers(t *testing.T) []impl.Layer {
	t.Helper()
	list := slices.DeleteFunc(refLayers(), func(l impl.Layer) bool {
		_, ok := wantAll(l)
		return !ok
	})
	if len(list) < 300 {
		t.Fatalf("just %d layers expand", len(list))
	}
	return list
}

// refTexts returns texts with and without references, valid and not.
func refTexts() []string {
	list := upTo(4, []string{"$", "{", "}", ":", "a", " ", "${", "${a:x}", "${x}"})
	v := strings.Repeat("v", 40)
	return append(list, v, v+"v", v[:36]+"${x}", v[:37]+"${x}", v[:38]+"$$", v[:39]+"$", "${abcdefgh}", "${abcdefghi}", "${abcdefgh:abcdefgh}", "${abcdefghi:x}", "${a:abcdefghi}",
		"${X}", "${a.x}", "${a:X}", "${A:x}", "${a-b}", "${é}", "${x\xff}", "${x\n}", "$(x)", "$[x]", "${${x}}", "${x}}", "{${x}}", "${ x}", "${x }", "${a: x}", "${a :x}", "${a::x}", "${::x}",
		"$$$$$${x}$$", "$$$$$$$", "$${x}", "$$$x", "x=${x},${:x}", strings.Repeat("${x}", 10), strings.Repeat("$$", 20), strings.Repeat("$", 39), "~!#[]=${x}\"\\")
}

// soon fails the test if a call takes far longer than it can need.
func soon(t *testing.T, what string, call func()) {
	t.Helper()
	done := make(chan bool)
	go func() {
		call()
		close(done)
	}()
	select {
	case <-done:
	case <-time.After(20 * time.Second):
		t.Fatalf("%s does not end", what)
	}
}

// checkMade checks the result of a function that makes a text.
func checkMade(t *testing.T, what, got string, how int, want string, wantHow int) {
	t.Helper()
	if got != want || how != wantHow {
		t.Errorf("%s = %q, %d; want %q, %d", what, got, how, want, wantHow)
	}
}

// checkRefs checks the result of a function that tells references.
func checkRefs(t *testing.T, what string, got, want []impl.Ref) {
	t.Helper()
	if !slices.Equal(got, want) {
		t.Errorf("%s = %+v; want %+v", what, got, want)
	}
}
