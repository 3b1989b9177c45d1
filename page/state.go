package page

import (
	"strings"

	"acrospire/api"
)

// A state is a set of keys with their values. It never changes.
type state struct {
	root node
	keys int
}

func (s state) get(key string) (string, api.Errno) {
	if !isKey(key) {
		return "", api.ErrArg
	}
	// Nothing is between a key and the same one with a byte 0 behind it.
	pairs := s.scan(key, key+"\x00", 1)
	if len(pairs) == 0 {
		return "", api.ErrNone
	}
	return pairs[0].Value, api.OK
}

func (s state) has(key string) bool {
	_, e := s.get(key)
	return e == api.OK
}

func (s state) scan(lo, hi string, most int) []api.Pair {
	var pairs []api.Pair
	for pair := range from(s.root, lo) {
		if len(pairs) >= most || hi != "" && pair.Key >= hi {
			break
		}
		pairs = append(pairs, pair)
	}
	return pairs
}

func (s state) with(key, value string) state {
	keys := s.keys
	if !s.has(key) {
		keys++
	}
	// Copies, so that a state never keeps a long text of which the key is a part.
	pair := api.Pair{Key: strings.Clone(key), Value: strings.Clone(value)}
	return state{rootOf(replaced(s.root, key, []api.Pair{pair})), keys}
}

// without returns the state without a key that it has.
func (s state) without(key string) state {
	return state{rootOf(replaced(s.root, key, nil)), s.keys - 1}
}

func isKey(key string) bool {
	return len(key) >= 1 && len(key) <= api.MaxKey
}

func isValue(value string) bool {
	return len(value) <= api.MaxValue
}
