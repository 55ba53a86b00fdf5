// Package held: the transactions that a replica can tell others of.
package held

import (
	"sort"

	"chorus/api"
	"chorus/record"
)

// Log has of each replica the last ones of the transactions that are visible, in the order of their numbers.
type Log struct {
	lists [api.MaxReplicas][]record.Transaction
}

// Add takes the next one of a replica.
func (l *Log) Add(t record.Transaction) {
	l.lists[t.Dot.Replica] = append(l.lists[t.Dot.Replica], t)
}

// Beyond lists those that a vector does not cover, in the order of the dots.
func (l *Log) Beyond(v record.Vector) []record.Transaction {
	var beyond []record.Transaction
	for _, list := range l.lists {
		beyond = append(beyond, list[covered(list, v):]...)
	}
	return beyond
}

// LetGo drops those that a vector covers, and tells how many these were.
func (l *Log) LetGo(v record.Vector) int {
	gone := 0
	for replica, list := range l.lists {
		if count := covered(list, v); count > 0 {
			gone += count
			// A piece of the list would keep the memory of what is dropped.
			l.lists[replica] = append([]record.Transaction(nil), list[count:]...)
		}
	}
	return gone
}

// Count tells how many there are.
func (l *Log) Count() int {
	count := 0
	for _, list := range l.lists {
		count += len(list)
	}
	return count
}

// covered tells how many a vector covers of one replica's list; they stand at its start.
func covered(list []record.Transaction, v record.Vector) int {
	return sort.Search(len(list), func(i int) bool { return !v.Covers(list[i].Dot) })
}
