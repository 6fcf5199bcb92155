package tests

import (
	"slices"
	"strings"
	"testing"

	"loop.example/settinglayers/impl"
)

func TestExpandTextInSections(t *testing.T) {
	l := lay("x=top", "a.x=in a", "b.x=in b", "a.up=${:x}", "a.own=<${x}>", "a.over=${b:x}/${own}", "up=${a:up}", "b.far=${a:over}${a:over}", "b.e=", "b.money=$$5")
	for _, c := range [][3]string{
		{"a", "", ""}, {"a", "1", "1"}, {"a", "a  b", "a  b"}, {"a", "$$", "$"}, {"a", "$$$$", "$$"}, {"a", "1$$2$$", "1$2$"}, {"a", "$${x}", "${x}"},
		{"a", "${x}", "in a"}, {"b", "${x}", "in b"}, {"", "${x}", "top"}, {"", "${:x}", "top"}, {"a", "${:x}", "top"}, {"a", "${b:x}", "in b"}, {"c", "${a:x}", "in a"},
		{"b", "${a:own}", "<in a>"}, {"b", "${a:up}", "top"}, {"", "${up}", "top"}, {"a", "${over}", "in b/<in a>"}, {"", "${b:far}", "in b/<in a>in b/<in a>"},
		{"a", "-${x}-${x}-", "-in a-in a-"}, {"b", "${e}", ""}, {"b", "${e}${e}1${e}", "1"}, {"b", "${money}", "$5"}, {"b", "$$${money}$$", "$$5$"}, {"b", "$${money}", "${money}"},
		{"abcdefgh", "${b:e} ${a:x}", " in a"},
	} {
		got, how := impl.ExpandText(l, c[0], c[1])
		checkMade(t, "ExpandText "+c[1], got, how, c[2], impl.ExOk)
	}
	got, how := impl.ExpandText(impl.Layer{}, "", "1$$")
	checkMade(t, "ExpandText in nothing", got, how, "1$", impl.ExOk)
}

func TestExpandTextEndsFromTheLeft(t *testing.T) {
	v40 := strings.Repeat("v", 40)
	l := lay("ok=1", "bad=$", "miss=${no}", "self=${self}", "p=${q}", "q=${p}", "r=1${p}", "full="+v40, "most=${full}${full}${full}", "long=${most}1",
		"badmiss=${no}$", "missbad=${no}${bad}", "longmiss=${most}1${no}", "misslong=${no}${most}1", "mostmiss=${most}${no}", "mostself=${most}${mostself}1", "tail=${a:tail}${no}", "a.tail=${b:tail}", "b.tail=${:tail}")
	for text, want := range map[string]int{
		"${bad}": impl.ExBad, "$": impl.ExBad, "${miss}$": impl.ExBad, "${long}${": impl.ExBad, "${self}${bad}$x": impl.ExBad, "1${ok}${X}": impl.ExBad,
		"${badmiss}": impl.ExBad, "${missbad}": impl.ExMissing, "${bad}${no}": impl.ExBad, "${no}${bad}": impl.ExMissing, "${ok}${bad}${self}": impl.ExBad,
		"${no}": impl.ExMissing, "${a:ok}": impl.ExMissing, "${:no}": impl.ExMissing, "${miss}": impl.ExMissing, "${ok}${miss}${p}": impl.ExMissing,
		"${self}": impl.ExCycle, "${p}": impl.ExCycle, "${q}": impl.ExCycle, "${r}": impl.ExCycle, "${self}${no}": impl.ExCycle, "${no}${self}": impl.ExMissing, "${p}${long}": impl.ExCycle, "${tail}": impl.ExCycle, "${a:tail}": impl.ExCycle, "${b:tail}": impl.ExCycle,
		"${most}": impl.ExOk, "${long}": impl.ExLong, "${most}1": impl.ExLong, "1${most}": impl.ExLong, "${most}$$": impl.ExLong, "$$${most}": impl.ExLong, "${most}${ok}": impl.ExLong,
		"${longmiss}": impl.ExLong, "${misslong}": impl.ExMissing, "${long}${no}": impl.ExLong, "${no}${long}": impl.ExMissing, "${long}${self}": impl.ExLong, "${self}${long}": impl.ExCycle,
		// What is in a value comes ahead of the whole value, which counts then.
		"1${mostmiss}": impl.ExMissing, "${most}${miss}1": impl.ExMissing, "${most}${self}1": impl.ExCycle, "${most}${bad}1": impl.ExBad, "${most}${long}": impl.ExLong, "1${mostself}": impl.ExCycle, "${most}1${bad}": impl.ExLong,
	} {
		got, how := impl.ExpandText(l, "", text)
		if how != want || how != impl.ExOk && got != "" {
			t.Errorf("ExpandText(%q) = %q, %d; want %d", text, got, how, want)
		}
		same, sameHow := wantMade(l, "", text, nil)
		checkMade(t, "ExpandText "+text, got, how, same, sameHow)
	}
}

func TestExpandTextUpToTheLimit(t *testing.T) {
	full := lay("full="+strings.Repeat("v", 40), "three=${full}${full}${full}", "two=${full}${full}", "a.x=12", "one=1", "e=", "four=${three}${e}${e}", "dollar=$$")
	for text, want := range map[string]int{
		"${three}": 120, "${full}${full}${full}": 120, "${two}${full}": 120, "${two}" + strings.Repeat("w", 34): 114, "${three}${e}": 120, "${e}${four}${e}": 120,
		"${two}${one}" + strings.Repeat("w", 28): 109, "${two}$$${full}": -1, "${two}${one}${full}": -1, "${three}1": -1, "1${three}": -1, "${three}${one}": -1, "${three}$$": -1, "${dollar}${four}": -1, "${four}${four}": -1, "${three}${a:x}": -1,
	} {
		got, how := impl.ExpandText(full, "", text)
		if len(got) != max(want, 0) || (how == impl.ExOk) != (want >= 0) || want < 0 && how != impl.ExLong {
			t.Errorf("ExpandText(%q) = %q, %d", text, got, how)
		}
	}
}

func TestExpandValueOfKeys(t *testing.T) {
	l := lay("x=1${a:y}", "a.y=${z}$$", "a.z=2", "a.bad=1$", "a.miss=${no}", "a.self=-${a:self}", "b.x=${:x} ${a:miss}")
	for _, c := range []struct {
		s, key, want string
		how          int
	}{
		{"", "x", "12$", impl.ExOk}, {"a", "y", "2$", impl.ExOk}, {"a", "z", "2", impl.ExOk}, {"a", "bad", "", impl.ExBad}, {"a", "miss", "", impl.ExMissing}, {"a", "self", "", impl.ExCycle}, {"b", "x", "", impl.ExMissing},
		// There is no such entry, also where there can be none.
		{"", "y", "", impl.ExMissing}, {"a", "x", "", impl.ExMissing}, {"c", "x", "", impl.ExMissing}, {"", "", "", impl.ExMissing}, {"a", "", "", impl.ExMissing}, {"A", "x", "", impl.ExMissing}, {"a", "Y", "", impl.ExMissing},
		{"", "a:y", "", impl.ExMissing}, {"abcdefghi", "x", "", impl.ExMissing}, {"a", "abcdefghi", "", impl.ExMissing}, {"a", "$", "", impl.ExMissing}, {"", "x}${a:y", "", impl.ExMissing}, {"a\xff", "y", "", impl.ExMissing},
	} {
		got, how := impl.ExpandValue(l, c.s, c.key)
		checkMade(t, "ExpandValue "+c.s+" "+c.key, got, how, c.want, c.how)
	}
	long := lay("x="+strings.Repeat("v", 40), "a.y=${:x}${:x}${:x}", "b.z=${a:y}.", "c.z=.${b:z}")
	got, how := impl.ExpandValue(long, "a", "y")
	checkMade(t, "ExpandValue of 120 bytes", got, how, strings.Repeat("v", 120), impl.ExOk)
	got, how = impl.ExpandValue(long, "b", "z")
	checkMade(t, "ExpandValue of one more", got, how, "", impl.ExLong)
	got, how = impl.ExpandValue(long, "c", "z")
	checkMade(t, "ExpandValue of two more", got, how, "", impl.ExLong)
}

// chain returns the layer of n keys in the section a, each but the last one with a text that has the next key for each #.
func chain(n int, text, last string) impl.Layer {
	l := manyKeys("a", 0, n)
	for i := range n - 1 {
		l.Entries[i].Value = strings.ReplaceAll(text, "#", l.Entries[i+1].Key)
	}
	l.Entries[n-1].Value = last
	return l
}

func TestExpandLongWays(t *testing.T) {
	got, how := impl.ExpandValue(chain(20, "${#}1", "2"), "a", "ka")
	checkMade(t, "ExpandValue of a chain", got, how, "2"+strings.Repeat("1", 19), impl.ExOk)
	got, how = impl.ExpandValue(chain(20, "${#}1", "${ka}"), "a", "kj")
	checkMade(t, "ExpandValue of a circle", got, how, "", impl.ExCycle)
	got, how = impl.ExpandValue(chain(20, "${#}"+strings.Repeat("v", 6), "123456"), "a", "ka")
	checkMade(t, "ExpandValue of 120 bytes", got, how, "123456"+strings.Repeat("v", 19*6), impl.ExOk)
	got, how = impl.ExpandValue(chain(20, "${#}"+strings.Repeat("v", 6), "1234567"), "a", "ka")
	checkMade(t, "ExpandValue of one more", got, how, "", impl.ExLong)
}

func TestExpandEndsInTime(t *testing.T) {
	// Each value needs the next one eight times: one after the other that is never done.
	many := chain(20, strings.Repeat("${#}", 8), "")
	soon(t, "ExpandValue", func() {
		got, how := impl.ExpandValue(many, "a", "ka")
		checkMade(t, "ExpandValue", got, how, "", impl.ExOk)
	})
	soon(t, "ExpandText", func() {
		got, how := impl.ExpandText(many, "b", "${a:ka}1${a:ka}")
		checkMade(t, "ExpandText", got, how, "1", impl.ExOk)
	})
	soon(t, "ExpandAll", func() {
		l, ok := impl.ExpandAll(many)
		for i := range many.Entries {
			many.Entries[i].Value = ""
		}
		checkLayer(t, "ExpandAll", l, ok, many.Entries, true)
	})
	for last, want := range map[string]int{"$": impl.ExBad, "${no}": impl.ExMissing, "${ka}": impl.ExCycle, "${kt}": impl.ExCycle, "1": impl.ExLong} {
		soon(t, "ExpandValue", func() {
			got, how := impl.ExpandValue(chain(20, strings.Repeat("${#}", 8), last), "a", "ka")
			checkMade(t, "ExpandValue with "+last, got, how, "", want)
		})
	}
}

func TestExpandAllInOrder(t *testing.T) {
	for _, c := range [][2]string{
		{"", ""}, {"x=", "x="}, {"x=1 a.y=2", "x=1 a.y=2"}, {"x=$$", "x=$$"}, {"x=$$$$1", "x=$$$$1"}, {"x=$${x}", "x=$${x}"},
		{"x=${y} y=$$1", "x=$$1 y=$$1"}, {"a.x=${y}${:z} z=${a:y}- a.y=1", "a.x=11- z=1- a.y=1"}, {"x=$$${y}$$ y=${z}${z} z=$$", "x=$$$$$$$$ y=$$$$ z=$$"},
	} {
		l := layers(c[0], c[1])
		got, ok := impl.ExpandAll(l[0])
		checkLayer(t, "ExpandAll of "+c[0], got, ok, l[1].Entries, true)
	}
	for _, s := range []string{"x=$", "x=1 a.y=${no}", "x=${x}", "x=1 y=${z} z=${y}", "x=1 y=${x}${Z}"} {
		got, ok := impl.ExpandAll(layers(s)[0])
		checkLayer(t, "ExpandAll of "+s, got, ok, nil, false)
	}
}

func TestExpandAllUpToTheLimit(t *testing.T) {
	v20, d10 := strings.Repeat("v", 20), strings.Repeat("$$", 10)
	for _, c := range []struct {
		l, want impl.Layer
		ok      bool
	}{
		{lay("x=${y}${y}", "y="+v20), lay("x="+v20+v20, "y="+v20), true},
		{lay("x=${y}${y}1", "y="+v20), impl.Layer{}, false},
		{lay("x=${y}${y}", "y="+d10), lay("x="+d10+d10, "y="+d10), true},
		{lay("x=${y}${y}1", "y="+d10), impl.Layer{}, false},
		{lay("x=${y}${y}$$", "y="+d10), impl.Layer{}, false},
		{lay("x=${y}${y}${y}${y}", "y="+d10), impl.Layer{}, false},
		{lay("x=${y}${y}${y}${y}${y}", "y="+v20), impl.Layer{}, false},
		{lay("x=${y}${y}${y}${y}${y}${y}", "y="+v20), impl.Layer{}, false},
		{lay("x=${y}${y}${y}${y}${y}${y}1", "y="+v20), impl.Layer{}, false},
		// A value neither begins nor ends with a space.
		{lay("x=${y} 1", "y=2"), lay("x=2 1", "y=2"), true},
		{lay("x=${y} 1", "y="), impl.Layer{}, false},
		{lay("x=1 ${y}", "y="), impl.Layer{}, false},
		{lay("x=${y} ${y}", "y="), impl.Layer{}, false},
		// Values that are long on the way alone.
		{lay("x=${y}", "y="+v20+v20), lay("x="+v20+v20, "y="+v20+v20), true},
		{manyKeys("a", 0, 20), manyKeys("a", 0, 20), true},
		{manyKeys("a", 0, 21), impl.Layer{}, false},
	} {
		got, ok := impl.ExpandAll(c.l)
		checkLayer(t, "ExpandAll", got, ok, c.want.Entries, c.ok)
	}
}

func TestExpandAllLayers(t *testing.T) {
	ends := map[int]int{}
	texts := []string{"1$$", "${x}", "${a:x}-${:x}", "${a:y}${a:y}", "${no}", "$"}
	eachLayer(t, refLayers(), func(t *testing.T, l impl.Layer) {
		for _, r := range append(someRefs(), wantMissing(l)...) {
			want, wantHow := wantMadeRef(l, r, nil)
			got, how := impl.ExpandValue(l, r.Section, r.Key)
			checkMade(t, "ExpandValue", got, how, want, wantHow)
		}
		for _, e := range l.Entries {
			want, wantHow := wantMadeRef(l, entryRef(e), nil)
			got, how := impl.ExpandValue(l, e.Section, e.Key)
			checkMade(t, "ExpandValue", got, how, want, wantHow)
			ends[how]++
		}
		for _, text := range texts {
			for _, s := range []string{"", "a", "b"} {
				want, wantHow := wantMade(l, s, text, nil)
				got, how := impl.ExpandText(l, s, text)
				checkMade(t, "ExpandText "+text, got, how, want, wantHow)
			}
		}
		want, wantOK := wantAll(l)
		got, ok := impl.ExpandAll(l)
		checkLayer(t, "ExpandAll", got, ok, want, wantOK)
	})
	for how := impl.ExOk; how <= impl.ExLong; how++ {
		if ends[how] < 50 {
			t.Errorf("just %d values end with %d", ends[how], how)
		}
	}
}

func TestExpandTexts(t *testing.T) {
	l := lay("x=1", "a.x=${y}", "a.y=$$", "b.x=${x}", "abcdefgh=-", "abcdefgh.abcdefgh=+")
	for _, s := range []string{"", "a", "b", "abcdefgh", "A", "abcdefghi"} {
		for _, text := range refTexts() {
			want, wantHow := wantMade(l, s, text, nil)
			got, how := impl.ExpandText(l, s, text)
			if checkMade(t, "ExpandText "+s+" "+text, got, how, want, wantHow); t.Failed() {
				return
			}
		}
	}
}

func TestExpandOtherArguments(t *testing.T) {
	l := lay("x=1", "a.x=2")
	for _, s := range otherSections() {
		for _, text := range []string{"", "1", "${a:x}", "${:x}", "${no}", "$"} {
			got, how := impl.ExpandText(l, s, text)
			checkMade(t, "ExpandText "+text+" in "+s, got, how, "", impl.ExBad)
		}
	}
	for _, text := range otherValues() {
		got, how := impl.ExpandText(l, "", text)
		checkMade(t, "ExpandText "+text, got, how, "", impl.ExBad)
	}
	for _, other := range append(badLayers(), layers("x+1", "x-", "x=1 a.x+2", "x=1 y-", "y- x=1")...) {
		for _, s := range []string{"", "a", "b", "A"} {
			for _, text := range []string{"", "1", "${x}", "${a:x}", "${:x}", "${no}", "$"} {
				got, how := impl.ExpandText(other, s, text)
				checkMade(t, "ExpandText "+text, got, how, "", impl.ExBad)
			}
			for _, key := range []string{"x", "y", "no", "", "X"} {
				got, how := impl.ExpandValue(other, s, key)
				checkMade(t, "ExpandValue "+key, got, how, "", impl.ExBad)
			}
		}
		got, ok := impl.ExpandAll(other)
		checkLayer(t, "ExpandAll", got, ok, nil, false)
	}
}

func TestExpandedLayersShareNoMemory(t *testing.T) {
	whole := append(lay("x=1${y}", "y=2", "a.x=$$").Entries, make([]impl.Entry, 8)...)
	before := slices.Clone(whole)
	for range 2 {
		got, ok := impl.ExpandAll(impl.Layer{Entries: whole[:3]})
		checkLayer(t, "ExpandAll", got, ok, lay("x=12", "y=2", "a.x=$$").Entries, true)
		for i := range got.Entries[:cap(got.Entries)] {
			got.Entries[:cap(got.Entries)][i].Value = "changed"
		}
		if !slices.Equal(whole, before) {
			t.Fatalf("the layer is %+v", whole)
		}
	}
}
