package house

import (
	"slices"
	"strings"

	"acrospire/api"
)

// Text returns all that acts have changed, but the store.
func (x *House) Text() string {
	if !x.isUsable() {
		return ""
	}
	first := []string{phrase("time", x.time)}
	lines := slices.Concat(first, x.lotLines(), x.bedLines(), x.nodeLines(), x.siteLines(), x.letterLines())
	return strings.Join(lines, "\n") + "\n"
}

func (f *floor) lotLines() []string {
	var lines []string
	for lot := range f.book.Lots() {
		made, left, shipped, discarded, _ := f.book.Mass(lot)
		lines = append(lines, phrase("lot", lot, made, left, shipped, discarded))
	}
	return lines
}

func (f *floor) bedLines() []string {
	var lines []string
	for number, v := range f.beds {
		line := phrase("bed", number)
		if v.isEmpty() {
			lines = append(lines, line+" empty")
		} else {
			lines = append(lines, phrase(phrase(line, v.lot), v.cells...))
		}
	}
	return lines
}

func (f *floor) nodeLines() []string {
	var lines []string
	for _, node := range f.digest.Nodes() {
		lines = append(lines, phrase("node", node.ID, node.Count))
	}
	return lines
}

func (f *floor) siteLines() []string {
	var lines []string
	for site := range f.net.Sites() {
		table, _ := f.net.Table(site)
		line := phrase("site", site)
		for other := range api.MaxSites {
			line = phrase(line, table.Seen(other))
		}
		lines = append(lines, line)
		for _, e := range table.Entries() {
			lines = append(lines, phrase("entry "+e.Key+" "+e.Value, e.Dot.Site, e.Dot.Count))
		}
	}
	return lines
}

func (f *floor) letterLines() []string {
	var lines []string
	for _, ends := range f.net.Letters() {
		lines = append(lines, phrase("letter", ends[0], ends[1]))
	}
	return lines
}
