package tests

import (
	"slices"
	"strings"
	"testing"

	"loop.example/settinglayers/impl"
)

// family returns a layer in which sections inherit keys in many ways.
func family() impl.Layer {
	return lay("a.base=b, c", "a.x=1", "d.y=4", "d.z=5", "b.base=d,X", "c.x=7", "c.y=8", "c.z=", "c.w=${x}-$$", "e.base=e,E,q,a", "e.z=${:y}", "y=top", "base=f", "f.y=${no}", "f.z=${z}", "f.w=$", "g.base=f, c,g")
}

func TestSourceOfKeys(t *testing.T) {
	l := family()
	for _, c := range []struct{ s, key, from, value string }{
		{"a", "x", "a", "1"}, {"a", "y", "d", "4"}, {"a", "z", "d", "5"}, {"a", "w", "c", "${x}-$$"}, {"b", "y", "d", "4"}, {"c", "z", "c", ""}, {"c", "x", "c", "7"},
		{"e", "z", "e", "${:y}"}, {"e", "x", "a", "1"}, {"e", "y", "d", "4"}, {"e", "w", "c", "${x}-$$"}, {"", "y", "", "top"}, {"", "z", "f", "${z}"}, {"g", "y", "f", "${no}"}, {"g", "x", "c", "7"},
		{"a", "base", "a", "b, c"}, {"b", "base", "b", "d,X"}, {"e", "base", "e", "e,E,q,a"}, {"", "base", "", "f"},
	} {
		from, ok := impl.SourceOf(l, c.s, c.key)
		checkFound(t, "SourceOf "+c.key+" in "+c.s, from, ok, c.from, true)
		value, ok := impl.LookInherited(l, c.s, c.key)
		checkFound(t, "LookInherited "+c.key+" in "+c.s, value, ok, c.value, true)
	}
	for _, c := range [][2]string{{"a", "no"}, {"a", ""}, {"a", "X"}, {"b", "x"}, {"b", "w"}, {"d", "x"}, {"d", "base"}, {"c", "base"}, {"f", "base"}, {"f", "x"}, {"q", "x"}, {"q", "base"}, {"E", "x"}, {"A", "y"}, {"a ", "x"}, {"", "x"}, {"", ""}, {"abcdefghi", "y"}} {
		from, ok := impl.SourceOf(l, c[0], c[1])
		checkFound(t, "SourceOf "+c[1]+" in "+c[0], from, ok, "", false)
		value, ok := impl.LookInherited(l, c[0], c[1])
		checkFound(t, "LookInherited "+c[1]+" in "+c[0], value, ok, "", false)
		made, how := impl.ExpandInherited(l, c[0], c[1])
		checkMade(t, "ExpandInherited "+c[1]+" in "+c[0], made, how, "", impl.ExMissing)
	}
}

func TestBaseKeyIsNotInherited(t *testing.T) {
	// Only b tells bases: a, which inherits all else of it, has none of its own to tell.
	l := lay("b.base=c", "a.x=1", "b.x=2", "c.base=d", "a.base=b")
	cut, _ := impl.DropBase(l, "a", "b")
	for _, l := range []impl.Layer{l, cut} {
		own := impl.BasesOf(l, "a")
		value, ok := impl.LookInherited(l, "a", "base")
		checkFound(t, "LookInherited base", value, ok, strings.Join(own, ","), len(own) > 0)
		checkTexts(t, "KeysInherited", impl.KeysInherited(l, "a"), []string{"x"})
	}
	checkTexts(t, "KeysInherited of bases alone", impl.KeysInherited(l, "c"), nil)
	made, how := impl.ExpandInherited(l, "c", "base")
	checkMade(t, "ExpandInherited base", made, how, "d", impl.ExOk)
	made, how = impl.ExpandInherited(l, "d", "base")
	checkMade(t, "ExpandInherited base without bases", made, how, "", impl.ExMissing)
}

func TestExpandInheritedWhereItComesFrom(t *testing.T) {
	l := family()
	for _, c := range []struct {
		s, key, want string
		how          int
	}{
		{"a", "x", "1", impl.ExOk}, {"a", "y", "4", impl.ExOk}, {"a", "w", "7-$", impl.ExOk}, {"e", "w", "7-$", impl.ExOk}, {"c", "w", "7-$", impl.ExOk}, {"e", "z", "top", impl.ExOk}, {"c", "z", "", impl.ExOk},
		{"", "y", "top", impl.ExOk}, {"g", "y", "", impl.ExMissing}, {"", "z", "", impl.ExCycle}, {"g", "z", "", impl.ExCycle}, {"", "w", "", impl.ExBad}, {"a", "base", "b, c", impl.ExOk}, {"d", "base", "", impl.ExMissing},
	} {
		made, how := impl.ExpandInherited(l, c.s, c.key)
		checkMade(t, "ExpandInherited "+c.key+" in "+c.s, made, how, c.want, c.how)
	}
	// References are read in the section of the source, and are not inherited themselves.
	l = lay("a.base=b", "b.base=c", "b.x=${y}", "a.y=1", "c.y=2", "b.z=${a:y}${a:x}", "a.w=${x}")
	for _, key := range []string{"x", "z", "w"} {
		made, how := impl.ExpandInherited(l, "a", key)
		checkMade(t, "ExpandInherited "+key, made, how, "", impl.ExMissing)
	}
	long := lay("a.base=b", "b.x=${v}${v}${v}", "b.v="+strings.Repeat("v", 40))
	made, how := impl.ExpandInherited(long, "a", "x")
	checkMade(t, "ExpandInherited of 120 bytes", made, how, strings.Repeat("v", 120), impl.ExOk)
	long.Entries[1].Value += "1"
	made, how = impl.ExpandInherited(long, "a", "x")
	checkMade(t, "ExpandInherited of one more", made, how, "", impl.ExLong)
}

func TestKeysInheritedInOrder(t *testing.T) {
	l := family()
	for s, want := range map[string]string{"a": "x y z w", "b": "y z", "c": "x y z w", "d": "y z", "e": "z x y w", "": "y z w", "f": "y z w", "g": "y z w x", "q": "", "E": "", "A": "", "a ": "", "X": ""} {
		checkTexts(t, "KeysInherited of "+s, impl.KeysInherited(l, s), strings.Fields(want))
	}
	slices.Reverse(l.Entries)
	for s, want := range map[string]string{"a": "x z y w", "c": "w z y x", "e": "z x y w", "": "y w z", "g": "w z y x"} {
		checkTexts(t, "KeysInherited from behind of "+s, impl.KeysInherited(l, s), strings.Fields(want))
	}
	many := both(lay("a.base=c,b"), manyKeys("b", 0, 10), manyKeys("c", 5, 9))
	keys := impl.KeysInherited(many, "a")
	if want := append(impl.KeysInherited(many, "c"), "ka", "kb", "kc", "kd", "ke"); !slices.Equal(keys, want) || len(keys) != 14 {
		t.Errorf("KeysInherited of many = %q; want %q", keys, want)
	}
}

func TestInheritedInAllLayers(t *testing.T) {
	own, far, none := 0, 0, 0
	eachLayer(t, baseLayers(), func(t *testing.T, l impl.Layer) {
		for _, s := range askedSections {
			checkTexts(t, "KeysInherited of "+s, impl.KeysInherited(l, s), wantInherited(l, s))
			for _, key := range []string{"x", "y", "z", "base", "abcdefgh", "no", "", "X"} {
				e, wantOK := wantSource(l, s, key)
				from, ok := impl.SourceOf(l, s, key)
				checkFound(t, "SourceOf "+key+" in "+s, from, ok, e.Section, wantOK)
				value, ok := impl.LookInherited(l, s, key)
				checkFound(t, "LookInherited "+key+" in "+s, value, ok, e.Value, wantOK)
				want, wantHow := "", impl.ExMissing
				if ok {
					want, wantHow = wantMadeRef(l, entryRef(e), nil)
				}
				made, how := impl.ExpandInherited(l, s, key)
				checkMade(t, "ExpandInherited "+key+" in "+s, made, how, want, wantHow)
				switch {
				case !ok:
					none++
				case from == s:
					own++
				default:
					far++
				}
			}
		}
	})
	if own < 5000 || far < 5000 || none < 5000 {
		t.Errorf("just %d keys of the section, %d inherited, and %d not there", own, far, none)
	}
}
