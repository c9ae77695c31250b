package parts

import (
	"slices"

	"swashplate/api"
	"swashplate/whole"
)

// Where parts are that are in no machine.
var (
	store = [2]int{-1, -1}
	scrap = [2]int{-2, -2}
)

// piece is a part as it stands: its hours and cycles are those that it had and has flown.
type piece struct {
	api.Part
	at      [2]int              // the machine and the place
	since   [api.MaxOrders]int  // the hours that it has flown since each order was issued
	checked [api.MaxOrders]bool // for which orders it has been checked
}

// inMachine reports whether a part is in a machine.
func (p piece) inMachine() bool { return p.at != store && p.at != scrap }

// shop is a register as it stands.
type shop struct {
	api.Register
	pieces []piece
	issued [api.MaxOrders]bool
}

// checkRegister returns ErrRegister unless a register is valid.
func checkRegister(r api.Register) api.Errno {
	right := len(r.Kinds) <= api.MaxKinds && len(r.Parts) <= api.MaxParts && len(r.Orders) <= api.MaxOrders && whole.Within(0, api.MaxMachines, r.Machines)
	for _, k := range r.Kinds {
		right = right && whole.Within(1, api.MaxLife, k.Hours, k.Cycles) && whole.Within(0, api.MaxPositions, k.Places)
	}
	for _, p := range r.Parts {
		right = right && isOf(r.Kinds, p.Kind) && whole.Within(0, api.MaxLife, p.Hours, p.Cycles)
	}
	for _, o := range r.Orders {
		right = right && isOf(r.Kinds, o.Kind) && whole.Within(0, api.MaxLife, o.Within)
	}
	if !right {
		return api.ErrRegister
	}
	return api.OK
}

// isOf reports whether a list has an element with a number.
func isOf[T any](l []T, n int) bool { return whole.Within(0, len(l)-1, n) }

// behind returns a register as it stands behind works; with ErrWork, the number of the first one that is not possible.
func behind(r api.Register, l []api.Work) (*shop, int, api.Errno) {
	if e := checkRegister(r); e != api.OK {
		return nil, 0, e
	}
	if len(l) > api.MaxWorks {
		return nil, 0, api.ErrMany
	}
	s := &shop{Register: r}
	for _, p := range r.Parts {
		s.pieces = append(s.pieces, piece{Part: p, at: store})
	}
	if i := slices.IndexFunc(l, func(w api.Work) bool { return !s.does(w) }); i >= 0 {
		return nil, i, api.ErrWork
	}
	return s, 0, api.OK
}

// does does a work, if it is possible.
func (s *shop) does(w api.Work) bool {
	if !s.possible(w) {
		return false
	}
	switch w.Kind {
	case api.Flown:
		s.fly(w.A, w.B, w.C)
	case api.Fitted:
		s.pieces[w.A].at = [2]int{w.B, w.C}
	case api.Taken:
		s.pieces[w.A].at = store
	case api.Issued:
		s.issued[w.A] = true
	case api.Checked:
		s.pieces[w.A].checked[w.B] = true
	case api.Scrapped:
		s.pieces[w.A].at = scrap
	}
	return true
}

// possible reports whether a work is one, and possible.
func (s *shop) possible(w api.Work) bool {
	switch w.Kind {
	case api.Flown:
		return whole.Within(0, s.Machines-1, w.A) && whole.Within(0, api.MaxFlight, w.B, w.C) && s.longest(w.A, w.C) >= w.B
	case api.Fitted:
		return isOf(s.pieces, w.A) && whole.Within(0, s.Machines-1, w.B) && s.fits(w.A, [2]int{w.B, w.C})
	case api.Taken:
		return w.B == 0 && w.C == 0 && isOf(s.pieces, w.A) && s.pieces[w.A].inMachine()
	case api.Issued:
		return w.B == 0 && w.C == 0 && isOf(s.Orders, w.A) && !s.issued[w.A]
	case api.Checked:
		return w.C == 0 && isOf(s.pieces, w.A) && isOf(s.Orders, w.B) && s.holds(w.B, s.pieces[w.A])
	case api.Scrapped:
		return w.B == 0 && w.C == 0 && isOf(s.pieces, w.A) && s.pieces[w.A].at == store
	}
	return false
}

// fits reports whether a part can be fitted at a place of a machine.
func (s *shop) fits(part int, at [2]int) bool {
	p := s.pieces[part]
	return p.at == store && p.Known && whole.Within(0, s.Kinds[p.Kind].Places-1, at[1]) && s.at(p.Kind, at) < 0
}

// holds reports whether an order holds for a part that has not been checked for it.
func (s *shop) holds(order int, p piece) bool {
	return s.issued[order] && s.Orders[order].Kind == p.Kind && !p.checked[order]
}

// at returns the part of a kind that is at a place of a machine, or -1.
func (s *shop) at(kind int, at [2]int) int {
	return slices.IndexFunc(s.pieces, func(p piece) bool { return p.Kind == kind && p.at == at })
}

// lacks returns the places (kind, place) of a machine that are empty.
func (s *shop) lacks(machine int) [][2]int {
	var l [][2]int
	for kind, k := range s.Kinds {
		for place := range k.Places {
			if s.at(kind, [2]int{machine, place}) < 0 {
				l = append(l, [2]int{kind, place})
			}
		}
	}
	return l
}

// left returns what a part can fly without being beyond something; less than 0 if it is beyond it now.
func (s *shop) left(p piece) (hours, cycles int) {
	hours, cycles = s.Kinds[p.Kind].Hours-p.Hours, s.Kinds[p.Kind].Cycles-p.Cycles
	for i, o := range s.Orders {
		if s.holds(i, p) {
			hours = min(hours, o.Within-p.since[i])
		}
	}
	return hours, cycles
}

// longest returns the hours of the longest flight with so many cycles that is possible, or -1.
func (s *shop) longest(machine, cycles int) int {
	if len(s.lacks(machine)) > 0 {
		return -1
	}
	longest := api.MaxFlight
	for _, p := range s.pieces {
		if p.at[0] != machine {
			continue
		}
		hours, most := s.left(p)
		if cycles > most {
			return -1
		}
		longest = min(longest, hours)
	}
	return max(longest, -1)
}

// fly lets all parts in a machine fly.
func (s *shop) fly(machine, hours, cycles int) {
	for i := range s.pieces {
		p := &s.pieces[i]
		if p.at[0] != machine {
			continue
		}
		p.Hours += hours
		p.Cycles += cycles
		for order, issued := range s.issued {
			if issued {
				p.since[order] += hours
			}
		}
	}
}
