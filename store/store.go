// Package store: what is told by the transactions that are visible at a replica, now and to those that began earlier.
package store

import (
	"slices"

	"chorus/api"
	"chorus/record"
)

// name of a version: its place, and the transaction with which it came.
type name struct {
	place record.Place
	came  api.Dot
}

// version of a place is told to all that saw the transaction with which it came, and not the one with which it went. (Transactions become visible one behind the other, so whoever saw a later one that overrides it saw the first one too.)
type version struct {
	went  api.Dot // its Seq is 0 as long as the version stands
	sum   int     // of a counter: all that was added up to here
	value string  // of a register
}

func (v version) stands() bool {
	return v.went.Seq == 0
}

// Store keeps the versions that stand, and those that an open snapshot still reads.
type Store struct {
	visible  record.Vector
	versions map[name]version
	came     map[record.Place][]api.Dot
	elements map[string]map[string]struct{} // of each set those that have versions, so that reading one set does not go through all
	open     []*Snapshot
}

// New makes a store in which nothing is visible.
func New() *Store {
	return &Store{
		versions: map[name]version{},
		came:     map[record.Place][]api.Dot{},
		elements: map[string]map[string]struct{}{},
	}
}

// Visible tells what is visible.
func (s *Store) Visible() record.Vector {
	return s.visible
}

// Apply makes a transaction visible. Its replica's earlier ones and all that it saw must be visible already.
func (s *Store) Apply(t record.Transaction) {
	for place, write := range t.Writes {
		switch write.Kind {
		case record.Add:
			s.add(place, write.Amount, t.Dot)
		case record.Assign:
			s.retire(place, t.Saw, t.Dot)
			s.put(name{place, t.Dot}, version{value: write.Value})
		case record.Insert:
			// An earlier insert that this one saw adds nothing: a remove that saw this one saw that one too.
			s.retire(place, t.Saw, t.Dot)
			s.put(name{place, t.Dot}, version{})
			s.list(place)
		case record.Remove:
			s.retire(place, t.Saw, t.Dot)
		}
	}
	s.visible[t.Dot.Replica] = t.Dot.Seq
}

// add overrides the sum that stands whether the transaction saw it or not: sums take in whatever is visible. A sum of 0 needs no version.
func (s *Store) add(place record.Place, amount int, dot api.Dot) {
	sum := s.standing(place) + amount
	s.retire(place, s.visible, dot)
	if sum != 0 {
		s.put(name{place, dot}, version{sum: sum})
	}
}

func (s *Store) standing(place record.Place) int {
	for _, dot := range s.came[place] {
		if v := s.versions[name{place, dot}]; v.stands() {
			return v.sum
		}
	}
	return 0
}

// retire ends the standing versions of a place that came with a transaction of seen.
func (s *Store) retire(place record.Place, seen record.Vector, by api.Dot) {
	for _, dot := range slices.Clone(s.came[place]) {
		n := name{place, dot}
		if v := s.versions[n]; v.stands() && seen.Covers(dot) {
			v.went = by
			s.versions[n] = v
			s.entrust(n)
		}
	}
}

// entrust leaves a version that went to one of the snapshots that read it, to be let go with that one; if there is none, it is let go at once.
func (s *Store) entrust(n name) {
	for _, reader := range s.open {
		if reader.reads(n) {
			reader.kept = append(reader.kept, n)
			return
		}
	}
	s.drop(n)
}

func (s *Store) put(n name, v version) {
	s.versions[n] = v
	s.came[n.place] = append(s.came[n.place], n.came)
}

func (s *Store) list(place record.Place) {
	if s.elements[place.Key] == nil {
		s.elements[place.Key] = map[string]struct{}{}
	}
	s.elements[place.Key][place.Element] = struct{}{}
}

func (s *Store) drop(n name) {
	delete(s.versions, n)
	left := slices.DeleteFunc(s.came[n.place], func(dot api.Dot) bool { return dot == n.came })
	if len(left) > 0 {
		s.came[n.place] = left
		return
	}
	delete(s.came, n.place)
	delete(s.elements[n.place.Key], n.place.Element)
	if len(s.elements[n.place.Key]) == 0 {
		delete(s.elements, n.place.Key)
	}
}
