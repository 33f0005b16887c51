package tests

import (
	"testing"

	"loop.example/g00562/impl"
)

// wantDeskCatalog is the one that chapter 13 names.
func wantDeskCatalog() impl.Catalog {
	return impl.Catalog{
		Meters: []impl.Meter{
			{Name: "cpu", Agg: 1, Free: 10, Tiers: []impl.Tier{{Upto: 100, Price: 50}, {Upto: 1000000000000, Price: 20}}},
			{Name: "disk", Agg: 2, Whole: true, Least: 500, Tiers: []impl.Tier{{Upto: 50, Price: 9}, {Upto: 200, Price: 7}, {Upto: 1000000000000, Price: 5}}},
			{Name: "users", Agg: 3, Tiers: []impl.Tier{{Upto: 1000000000000, Price: 1000}}},
		},
		Credits: []impl.Credit{{Account: "ann", Micro: 3000}},
	}
}

func TestDeskEngine(t *testing.T) {
	want := impl.Engine{Catalog: wantDeskCatalog(), Sources: sourcesOf("east", "west")}
	first := impl.DeskEngine()
	is(t, "the desk's engine", first, want)
	checkRightCatalog(t, "the desk's catalog", first.Catalog)
	spoilCatalog(first.Catalog)
	first.Sources[0].Mark = 1
	is(t, "asked again", impl.DeskEngine(), want)
}
