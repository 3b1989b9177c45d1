package house

import (
	"slices"

	"acrospire/api"
	"acrospire/digest"
	"acrospire/lots"
	"acrospire/sync"
)

// done is the answer of an act of which there is nothing to tell.
const done = "ok"

// A floor is what the acts that are stored change. Each of them either is refused before it
// has changed anything, or is not refused.
type floor struct {
	plant  api.House
	time   int
	book   *lots.Book
	beds   []vessel
	digest digest.Digest
	net    *sync.Net
}

// newFloor returns the floor of a valid house, which is why no error is possible.
func newFloor(h api.House) *floor {
	readings, _ := digest.New(h.Levels, h.Factor)
	net, _ := sync.NewNet(h.Sites)
	return &floor{plant: h, book: lots.New(), beds: make([]vessel, h.Beds), digest: readings, net: net}
}

// acts returns the acts by their words.
func (f *floor) acts() map[string]act {
	return map[string]act{
		"receive": {"n", "", f.receive},
		"blend":   {"nn", "nn", f.blend},
		"ship":    {"nn", "", f.ship},
		"discard": {"nn", "", f.discard},
		"charge":  {"nnn", "", f.charge},
		"steep":   {"nn", "", f.steep},
		"turn":    {"n", "", f.turn},
		"read":    {"n", "", f.read},
		"empty":   {"n", "", f.empty},
		"tick":    {"n", "", f.tick},
		"cook":    {"nnr", "", f.cook},
		"put":     {"ntt", "", f.put},
		"remove":  {"nt", "", f.remove},
		"send":    {"nn", "", f.send},
		"lose":    {"n", "", f.lose},
		"deliver": {"n", "", f.deliver},
		"repeat":  {"n", "", f.repeat},
	}
}

func (f *floor) receive(a arguments) string {
	lot, err := f.book.Receive(a.numbers[0])
	require(err)
	return phrase("lot", lot)
}

func (f *floor) blend(a arguments) string {
	var parts []api.Part
	for pair := range slices.Chunk(a.numbers, 2) {
		parts = append(parts, api.Part{Lot: pair[0], Mass: pair[1]})
	}
	lot, err := f.book.Blend(parts)
	require(err)
	return phrase("lot", lot)
}

func (f *floor) ship(a arguments) string {
	require(f.book.Ship(a.numbers[0], a.numbers[1]))
	return done
}

func (f *floor) discard(a arguments) string {
	require(f.book.Discard(a.numbers[0], a.numbers[1]))
	return done
}

func (f *floor) put(a arguments) string {
	require(f.net.Put(a.numbers[0], a.texts[0], a.texts[1]))
	return done
}

func (f *floor) remove(a arguments) string {
	require(f.net.Remove(a.numbers[0], a.texts[0]))
	return done
}

func (f *floor) send(a arguments) string {
	require(f.net.Send(a.numbers[0], a.numbers[1]))
	return done
}

func (f *floor) lose(a arguments) string {
	require(f.net.Lose(a.numbers[0]))
	return done
}

func (f *floor) deliver(a arguments) string {
	require(f.net.Deliver(a.numbers[0], false))
	return done
}

func (f *floor) repeat(a arguments) string {
	require(f.net.Deliver(a.numbers[0], true))
	return done
}
