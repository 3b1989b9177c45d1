package page

import (
	"acrospire/api"
)

// Store is a store of keys with values on a disk. Open returns one that is usable.
type Store struct {
	disk               *Disk
	committed, current state
	views              int // those that are not closed
}

// Format makes an empty store on a disk.
func Format(d *Disk) api.Errno {
	if !d.isUsable() {
		return api.ErrUnusable
	}
	d.open = nil
	return writeRoot(d, &leaf{})
}

// Open returns the store on a disk. It breaks the one that was open there.
func Open(d *Disk) (*Store, api.Errno) {
	if !d.isUsable() {
		return nil, api.ErrUnusable
	}
	d.open = nil
	if d.off {
		return nil, api.ErrOff
	}
	found, ok := load(d)
	if !ok {
		return nil, api.ErrFormat
	}
	d.open = &Store{disk: d, committed: found, current: found}
	return d.open, api.OK
}

// Get returns the value of a key.
func (s *Store) Get(key string) (string, api.Errno) {
	if e := s.check(); e != api.OK {
		return "", e
	}
	return s.current.get(key)
}

// Put gives a key a value.
func (s *Store) Put(key, value string) api.Errno {
	if e := s.check(); e != api.OK {
		return e
	}
	if !isKey(key) || !isValue(value) {
		return api.ErrArg
	}
	if s.current.keys >= room(s.disk) && !s.current.has(key) {
		return api.ErrFull
	}
	s.current = s.current.with(key, value)
	return api.OK
}

// Delete removes a key.
func (s *Store) Delete(key string) api.Errno {
	if e := s.check(); e != api.OK {
		return e
	}
	if _, e := s.current.get(key); e != api.OK {
		return e
	}
	s.current = s.current.without(key)
	return api.OK
}

// Scan returns the first of the keys from lo on that are less than hi, with their values. An
// empty hi is greater than all keys.
func (s *Store) Scan(lo, hi string, most int) ([]api.Pair, api.Errno) {
	if e := s.check(); e != api.OK {
		return nil, e
	}
	return s.current.scan(lo, hi, most), api.OK
}

// Len returns the number of keys.
func (s *Store) Len() int {
	if !s.isUsable() {
		return 0
	}
	return s.current.keys
}

// Commit makes all changes since the last Commit durable, or none of them.
func (s *Store) Commit() api.Errno {
	if e := s.check(); e != api.OK {
		return e
	}
	if e := s.write(); e != api.OK {
		s.disk.open = nil
		return e
	}
	s.committed = s.current
	return api.OK
}

// Rollback takes all changes since the last Commit back.
func (s *Store) Rollback() api.Errno {
	if e := s.check(); e != api.OK {
		return e
	}
	s.current = s.committed
	return api.OK
}

func (s *Store) isUsable() bool {
	return s != nil && s.disk != nil
}

// check returns the error of a call for a store that cannot be used now. The store is broken
// as soon as it has said that the disk is off.
func (s *Store) check() api.Errno {
	if !s.isUsable() {
		return api.ErrUnusable
	}
	if s.disk.open != s {
		return api.ErrBroken
	}
	if s.disk.off {
		s.disk.open = nil
		return api.ErrOff
	}
	return api.OK
}

// room returns for how many keys a disk has room. A tree has no more leaves than keys, and
// fewer branches than leaves: there always are free pages for another one beside it.
func room(d *Disk) int {
	return (d.Pages() - 4) / 16
}
