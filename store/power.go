package store

import "deedbox/api"

// power of a store; its zero value: it is there, and no Cut waits.
type power struct {
	off   bool
	waits bool // a Cut
	left  int  // bytes, until the Cut that waits comes
}

// write a text's bytes: what is written of it; with an error power failed on the way.
func (p *power) write(text string) (string, error) {
	if !p.waits {
		return text, nil
	}
	if len(text) > p.left {
		written := text[:p.left]
		*p = power{off: true}
		return written, api.ErrOff
	}
	p.left -= len(text)
	return text, nil
}

// Cut power later.
func (s *Store) Cut(n int) error {
	if n < 0 {
		return api.ErrBound
	}
	if s.power.off {
		return api.ErrOff
	}
	s.power = power{waits: true, left: n}
	return nil
}

// On: power is there.
func (s *Store) On() { s.power = power{} }

// Power: is it there?
func (s *Store) Power() bool { return !s.power.off }
