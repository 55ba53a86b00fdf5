package store

import (
	"slices"

	"chorus/api"
	"chorus/record"
)

// Snapshot reads a store as it was when the snapshot was opened.
type Snapshot struct {
	store *Store
	saw   record.Vector
	kept  []name // versions that went since, and stay for its sake
}

// Open makes a snapshot of what is visible now.
func (s *Store) Open() *Snapshot {
	n := &Snapshot{store: s, saw: s.visible}
	s.open = append(s.open, n)
	return n
}

// Close ends a snapshot; what was kept for it goes on to others that read it, or is let go.
func (n *Snapshot) Close() {
	s := n.store
	s.open = slices.DeleteFunc(s.open, func(other *Snapshot) bool { return other == n })
	for _, k := range n.kept {
		s.entrust(k)
	}
	n.kept = nil
}

// Saw tells what was visible when the snapshot was opened.
func (n *Snapshot) Saw() record.Vector {
	return n.saw
}

// Sum tells a counter.
func (n *Snapshot) Sum(key string) int {
	sum := 0
	place := record.Place{Key: key}
	for _, dot := range n.told(place) {
		sum += n.store.versions[name{place, dot}].sum
	}
	return sum
}

// Values tells a register, in the order of the dots.
func (n *Snapshot) Values(key string) []string {
	var list []string
	place := record.Place{Key: key}
	for _, dot := range n.told(place) {
		list = append(list, n.store.versions[name{place, dot}].value)
	}
	return list
}

// Elements tells a set, in the order of the bytes.
func (n *Snapshot) Elements(key string) []string {
	var list []string
	for element := range n.store.elements[key] {
		if len(n.told(record.Place{Key: key, Element: element})) > 0 {
			list = append(list, element)
		}
	}
	slices.Sort(list)
	return list
}

// told lists with which transactions the versions of a place came that the snapshot reads, in the order of the dots.
func (n *Snapshot) told(place record.Place) []api.Dot {
	var list []api.Dot
	for _, dot := range n.store.came[place] {
		if n.reads(name{place, dot}) {
			list = append(list, dot)
		}
	}
	slices.SortFunc(list, record.InOrder)
	return list
}

func (n *Snapshot) reads(x name) bool {
	v := n.store.versions[x]
	return n.saw.Covers(x.came) && (v.stands() || !n.saw.Covers(v.went))
}
