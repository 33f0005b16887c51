package tests

import (
	"fmt"
	"slices"
	"testing"

	"loop.example/g00562/impl"
)

// sourcesOf are Sources of these names at the mark 0.
func sourcesOf(names ...string) []impl.Source {
	var out []impl.Source
	for _, name := range names {
		out = append(out, impl.Source{Name: name})
	}
	return out
}

// checkNoEngine asks for an Engine that can't be: none may stand beside the code.
func checkNoEngine(t *testing.T, what string, c impl.Catalog, sources []string, code int64) {
	t.Helper()
	is(t, what, impl.EngineNew(c, sources), impl.EngineOut{Code: code})
}

func TestEngineWords(t *testing.T) {
	is(t, "limits", []int64{impl.Lateness, impl.MaxWindows, impl.MaxSources}, []int64{2880, 16, 3})
}

func TestEngineNew(t *testing.T) {
	for _, c := range []impl.Catalog{{}, {Meters: namedMeters("cpu")}, fullCatalog(), greatCatalog()} {
		for _, names := range [][]string{{"a"}, {"east", "west"}, {"a", "a0", "a_"}, {longText(20)}} {
			kept := slices.Clone(names)
			want := impl.Engine{Catalog: keptCatalog(c), Sources: sourcesOf(names...)}
			is(t, fmt.Sprint("an engine of ", names), impl.EngineNew(c, names), impl.EngineOut{Engine: want})
			is(t, "the names handed in", names, kept)
			is(t, "the catalog handed in", c, want.Catalog)
		}
	}
}

func TestEngineNewRefuses(t *testing.T) {
	c := fullCatalog()
	wrong := [][]string{nil, {}, {"a", "b", "c", "d"}, {"a", "a"}, {"b", "a"}, {"a", "c", "b"}, {"a", "b", "b"}, {"aa", "a"}, {"a", "B"}, {"a", ""}}
	for _, names := range wrong {
		checkNoEngine(t, fmt.Sprint("sources ", names), c, names, impl.ErrForm)
	}
	for _, name := range wrongNames() {
		checkNoEngine(t, "a source "+told(name), c, []string{name}, impl.ErrForm)
		checkNoEngine(t, "a source behind another "+told(name), c, []string{"a", name}, impl.ErrForm)
	}
	many := slices.Repeat([]string{"east"}, impl.MaxList+1)
	checkNoEngine(t, "MaxList sources", c, many[1:], impl.ErrForm)
	checkNoEngine(t, "too many sources", c, many, impl.ErrSize)
	c.Meters[5].Agg = 0
	checkNoEngine(t, "a catalog that is not right", c, []string{"east"}, impl.ErrForm)
	checkNoEngine(t, "too many sources, and a catalog that is not right", c, many, impl.ErrSize)
}

func TestEngineNewSharesNothing(t *testing.T) {
	c, names := fullCatalog(), []string{"east", "west"}
	first, second := impl.EngineNew(c, names).Engine, impl.EngineNew(c, names).Engine
	spoilCatalog(first.Catalog)
	is(t, "the catalog handed in", c, fullCatalog())
	spoilCatalog(c)
	names[0] = "north"
	is(t, "made beside it", second, impl.Engine{Catalog: fullCatalog(), Sources: sourcesOf("east", "west")})
	for place := range impl.MaxMeters {
		made := impl.EngineNew(fullCatalog(), names[1:]).Engine.Catalog
		spoilMeter(made.Meters[place])
		want := fullCatalog()
		want.Meters[place].Tiers = made.Meters[place].Tiers
		is(t, fmt.Sprint("all but the tiers of ", place), made, want)
	}
}
