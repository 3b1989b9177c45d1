package page

import (
	"acrospire/api"
)

// View is a snapshot of a store. Method View of a store returns one that is usable. It has
// the nodes of its state in memory, so that it does not mind if their pages are written again.
type View struct {
	store  *Store
	state  state
	closed bool
}

// View returns a view of what was committed last.
func (s *Store) View() (*View, api.Errno) {
	if e := s.check(); e != api.OK {
		return nil, e
	}
	if s.views == api.MaxViews {
		return nil, api.ErrFull
	}
	s.views++
	return &View{store: s, state: s.committed}, api.OK
}

// Get returns the value of a key.
func (v *View) Get(key string) (string, api.Errno) {
	if e := v.check(); e != api.OK {
		return "", e
	}
	return v.state.get(key)
}

// Scan returns the first of the keys from lo on that are less than hi, with their values. An
// empty hi is greater than all keys.
func (v *View) Scan(lo, hi string, most int) ([]api.Pair, api.Errno) {
	if e := v.check(); e != api.OK {
		return nil, e
	}
	return v.state.scan(lo, hi, most), api.OK
}

// Len returns the number of keys.
func (v *View) Len() int {
	if !v.isUsable() {
		return 0
	}
	return v.state.keys
}

// Close ends the view.
func (v *View) Close() api.Errno {
	if e := v.checkOpen(); e != api.OK {
		return e
	}
	v.closed = true
	v.state.root = &leaf{} // so that the nodes do not stay in memory
	v.store.views--
	return api.OK
}

func (v *View) isUsable() bool {
	return v != nil && v.store != nil
}

// checkOpen returns the error of a call for a view that is not open.
func (v *View) checkOpen() api.Errno {
	if !v.isUsable() {
		return api.ErrUnusable
	}
	if v.closed {
		return api.ErrEnded
	}
	return api.OK
}

// check returns the error of a call for a view that cannot be used now.
func (v *View) check() api.Errno {
	if e := v.checkOpen(); e != api.OK {
		return e
	}
	return v.store.check()
}
