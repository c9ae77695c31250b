package rules

import (
	"reflect"
	"testing"

	"swashplate/api"
	"swashplate/crew"
	"swashplate/deck"
	"swashplate/engine"
	"swashplate/fleet"
	"swashplate/health"
	"swashplate/parts"
	"swashplate/record"
	"swashplate/rotor"
	"swashplate/route"
	s "swashplate/samples"
	"swashplate/sling"
	"swashplate/spans"
	"swashplate/weather"
)

// all returns the results of a call as a list.
func all(results ...any) []any { return results }

// TestExamples has the examples of DOC.md, one of each layer.
func TestExamples(t *testing.T) {
	for name, c := range map[string][2][]any{
		"spans.Bound":     {all(spans.Bound(s.Table(), s.Span(5, 15), s.Span(0, 5))), all(s.Span(10, 40), api.OK)},
		"rotor.Margin":    {all(rotor.Margin(s.Rotor(), s.Air(), s.Span(20, 20))), all(375, api.OK)},
		"engine.Depart":   {all(engine.Depart(s.Craft(), s.Air(), s.Field())), all([]api.Pose{{X: 1, Speed: 1, Height: 1}, {X: 3, Speed: 2, Height: 3}}, api.OK)},
		"weather.Windows": {all(weather.Windows(s.Met(), s.Minima(), 0, 0, 20)), all([]api.Span{s.Span(0, 9)}, api.OK)},
		"route.Least":     {all(route.Least(s.Flown(), s.Limits(), s.Net(), s.Flight())), all(72, api.OK)},
		"deck.Windows":    {all(deck.Windows(s.Deck(), s.Met(), s.Motion(), s.Approach(), 0, 20)), all([]api.Span{s.Span(5, 5), s.Span(7, 9)}, api.OK)},
		"sling.Gust":      {all(sling.Gust(api.Sling{Num: 1, Den: 1}, api.Box{s.Span(0, 10), s.Span(0, 0)}, 3, s.Span(-12, 12))), all(1, api.OK)},
		"health.Crest":    {all(health.Crest(api.Level{Energy: 28512, Peak: 108, Sum: 360, Den: 24}, 6)), all(9, 5, api.OK)},
		"parts.Longest":   {all(parts.Longest(s.Register(), s.Works(), 0, 2)), all(6, api.OK)},
		"crew.Until":      {all(crew.Until(s.Roster(), s.Duties(), 0, 16)), all(22, api.OK)},
		"fleet.Best":      {all(fleet.Best(s.Fleet())), all(s.Plan(), 12, api.OK)},
		"record.Until":    {all(record.Until(s.Case(), 1, 5)), all(30, api.OK)},
	} {
		if !reflect.DeepEqual(c[0], c[1]) {
			t.Errorf("%s = %v, want %v", name, c[0], c[1])
		}
	}
}
