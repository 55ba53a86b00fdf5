// Package record: what transactions are made of.
package record

import (
	"cmp"

	"chorus/api"
)

// Place is what one write can change: an element of a set, or a whole counter or register (Element is then empty).
type Place struct {
	Key, Element string
}

// Kind tells what a write does to its place.
type Kind int

const (
	Add Kind = iota
	Assign
	Insert
	Remove
)

// Write is all that a transaction does to one place. Amount is of Add alone, Value of Assign alone.
type Write struct {
	Kind   Kind
	Amount int
	Value  string
}

// Writes of a transaction, one for each place: nobody can read what it wrote there ahead of its last write.
type Writes map[Place]Write

// Put takes one more write.
func (w Writes) Put(place Place, write Write) {
	if write.Kind == Add {
		write.Amount += w[place].Amount
	}
	w[place] = write
}

// Transaction that was committed; Saw is what was visible at its replica when it began.
type Transaction struct {
	Dot    api.Dot
	Saw    Vector
	Writes Writes
}

// InOrder compares dots: by replica, then by number.
func InOrder(a, b api.Dot) int {
	return cmp.Or(cmp.Compare(a.Replica, b.Replica), cmp.Compare(a.Seq, b.Seq))
}

// CanFollow tells whether the transaction can become visible where that much is: it is not yet, and its replica's earlier ones and all that it saw are.
func (t Transaction) CanFollow(visible Vector) bool {
	return t.Dot.Seq == visible[t.Dot.Replica]+1 && visible.Includes(t.Saw)
}

// Needs tells of each transaction of a list in the order of the dots what must be visible ahead of it: what it saw, its replica's earlier ones, and what those saw, as far as they stand in the list. (One that began early and was committed late may have seen less than its replica's earlier ones.)
func Needs(list []Transaction) []Vector {
	var needs []Vector
	var latest [api.MaxReplicas]Vector
	for _, t := range list {
		need := latest[t.Dot.Replica].Join(t.Saw)
		need[t.Dot.Replica] = t.Dot.Seq - 1
		latest[t.Dot.Replica] = need
		needs = append(needs, need)
	}
	return needs
}
