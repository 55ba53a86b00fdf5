// Package held: the transactions that a replica can tell others of.
package held

import (
	"sort"

	"chorus/api"
	"chorus/record"
)

// Log has of each replica the transactions that are visible, in the order of their numbers.
type Log struct {
	lists [api.MaxReplicas][]record.Transaction
}

// Add takes the next one of a replica.
func (l *Log) Add(t record.Transaction) {
	l.lists[t.Dot.Replica] = append(l.lists[t.Dot.Replica], t)
}

// Beyond lists those that a vector does not cover, in the order of the dots.
func (l *Log) Beyond(v record.Vector) []record.Transaction {
	var beyond []record.Transaction
	for _, list := range l.lists {
		first := sort.Search(len(list), func(i int) bool { return !v.Covers(list[i].Dot) })
		beyond = append(beyond, list[first:]...)
	}
	return beyond
}
