package weather

import (
	"cmp"
	"slices"

	"swashplate/api"
	"swashplate/check"
	"swashplate/spans"
	"swashplate/whole"
)

func span(low, high int) api.Span { return api.Span{Low: low, High: high} }

// Check returns ErrMet unless a met is valid.
func Check(m api.Met) api.Errno {
	right := whole.Within(1, api.MaxSites, m.Places) && validSky(m.Any) && whole.Within(0, api.MaxSee, m.Wind, m.See, m.Ceiling) &&
		len(m.Forecasts) <= api.MaxForecasts && len(m.Sights) <= api.MaxSights
	if !right {
		return api.ErrMet
	}
	for _, f := range m.Forecasts {
		if !isPlace(m, f.Place) || !check.Period(f.From, f.To) || !check.Ticks(f.Issued) || !validSky(f.Sky) {
			return api.ErrMet
		}
	}
	for _, s := range m.Sights {
		if !isPlace(m, s.Place) || !check.Ticks(s.At) || !validWeather(s.Now) {
			return api.ErrMet
		}
	}
	return api.OK
}

func isPlace(m api.Met, place int) bool { return whole.Within(0, m.Places-1, place) }

func validSky(s api.Sky) bool {
	return check.Inside(0, api.MaxWind, s.Wind) && check.Inside(0, api.MaxSee, s.See, s.Ceiling)
}

func validWeather(w api.Weather) bool {
	return whole.Within(0, api.MaxWind, w.Wind) && whole.Within(0, api.MaxSee, w.See, w.Ceiling)
}

// checkMinima returns ErrMinima unless minima are valid.
func checkMinima(l api.Minima) api.Errno {
	if !whole.Within(0, api.MaxWind, l.Wind) || !whole.Within(0, api.MaxSee, l.See, l.Ceiling) {
		return api.ErrMinima
	}
	return api.OK
}

// outlook is a valid met whose forecasts (by their numbers) and sights are in the order in which they cut.
type outlook struct {
	api.Met
	forecasts []int
	sights    []api.Sight
}

// prepare returns the outlook of a met, or ErrMet.
func prepare(m api.Met) (outlook, api.Errno) {
	if e := Check(m); e != api.OK {
		return outlook{}, e
	}
	o := outlook{Met: m, sights: slices.Clone(m.Sights)}
	for i := range m.Forecasts {
		o.forecasts = append(o.forecasts, i)
	}
	slices.SortStableFunc(o.forecasts, func(i, k int) int { return cmp.Compare(m.Forecasts[i].Issued, m.Forecasts[k].Issued) })
	slices.SortStableFunc(o.sights, func(s, t api.Sight) int { return cmp.Compare(s.At, t.At) })
	return o, api.OK
}

// possible is what may be, and which forecasts have replaced a span of it.
type possible struct {
	api.Sky
	strange []int
}

// cut returns what is left of a span, and whether the other one replaces it.
func cut(s, by api.Span) (api.Span, bool) {
	if both, e := spans.Meet(s, by); e == api.OK {
		return both, false
	}
	return by, true
}

// cutSpans cuts the three spans, and reports whether one is replaced.
func (p *possible) cutSpans(wind, see, ceiling api.Span) bool {
	var a, b, c bool
	p.Wind, a = cut(p.Wind, wind)
	p.See, b = cut(p.See, see)
	p.Ceiling, c = cut(p.Ceiling, ceiling)
	return a || b || c
}

// around returns what a number that has been seen may be by now.
func around(seen, change, most int) api.Span {
	return span(max(0, seen-change), min(most, seen+change))
}

// may returns what may be at a place in a tick.
func (o outlook) may(place, tick int) possible {
	p := possible{Sky: o.Any}
	for _, i := range o.forecasts {
		f := o.Forecasts[i]
		if f.Place != place || tick < f.From || tick >= f.To {
			continue
		}
		if p.cutSpans(f.Sky.Wind, f.Sky.See, f.Sky.Ceiling) {
			p.strange = append(p.strange, i)
		}
		p.Ice = p.Ice && f.Sky.Ice
		p.Storm = p.Storm && f.Sky.Storm
	}
	for _, s := range o.sights {
		if s.Place == place && s.At <= tick {
			o.see(&p, s, tick-s.At)
		}
	}
	slices.Sort(p.strange)
	return p
}

// see cuts what may be by what was seen n ticks before.
func (o outlook) see(p *possible, s api.Sight, n int) {
	p.cutSpans(around(s.Now.Wind, n*o.Wind, api.MaxWind), around(s.Now.See, n*o.See, api.MaxSee), around(s.Now.Ceiling, n*o.Ceiling, api.MaxSee))
	if n == 0 {
		p.Ice, p.Storm = s.Now.Ice, s.Now.Storm
	}
}

// open reports whether every weather that may be is flyable.
func (p possible) open(l api.Minima) bool {
	return p.Wind.High <= l.Wind && p.See.Low >= l.See && p.Ceiling.Low >= l.Ceiling && (l.Ice || !p.Ice) && (l.Storm || !p.Storm)
}

// perhaps reports whether some weather that may be is flyable: there need not be ice or storm.
func (p possible) perhaps(l api.Minima) bool {
	return p.Wind.Low <= l.Wind && p.See.High >= l.See && p.Ceiling.High >= l.Ceiling
}

// has reports whether a weather may be.
func (p possible) has(w api.Weather) bool {
	return whole.Within(p.Wind.Low, p.Wind.High, w.Wind) && whole.Within(p.See.Low, p.See.High, w.See) &&
		whole.Within(p.Ceiling.Low, p.Ceiling.High, w.Ceiling) && (p.Ice || !w.Ice) && (p.Storm || !w.Storm)
}
