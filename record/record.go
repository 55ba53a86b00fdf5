// Package record: what transactions are made of.
package record

import "chorus/api"

// Vector tells of each replica how many of its transactions are meant: the numbers 1 to that one. It stays 0 behind the group's last replica.
type Vector [api.MaxReplicas]int

// Covers tells whether a transaction is among those that the vector means.
func (v Vector) Covers(dot api.Dot) bool {
	return dot.Seq <= v[dot.Replica]
}

// Place is what one write can change: an element of a set, or a whole counter or register (Element is then empty).
type Place struct {
	Key, Element string
}

// Kind tells what a write does to its place.
type Kind int

const (
	Add Kind = iota
	Assign
	Insert
	Remove
)

// Write is all that a transaction does to one place. Amount is of Add alone, Value of Assign alone.
type Write struct {
	Kind   Kind
	Amount int
	Value  string
}

// Writes of a transaction, one for each place: nobody can read what it wrote there ahead of its last write.
type Writes map[Place]Write

// Put takes one more write.
func (w Writes) Put(place Place, write Write) {
	if write.Kind == Add {
		write.Amount += w[place].Amount
	}
	w[place] = write
}

// Transaction that was committed; Saw is what was visible at its replica when it began.
type Transaction struct {
	Dot    api.Dot
	Saw    Vector
	Writes Writes
}
