// Package arrival: the order in which what arrives is applied.
package arrival

import (
	"container/heap"
	"iter"

	"chorus/record"
)

// InOrder gives transactions that stand in the order of the dots one by one, so that each comes behind what it saw, and behind its replica's earlier ones. Whoever saw a transaction must have seen all that this one needs.
func InOrder(list []record.Transaction) iter.Seq[record.Transaction] {
	return func(yield func(record.Transaction) bool) {
		q := &queue{}
		for i, need := range record.Needs(list) {
			heap.Push(q, waiting{transaction: list[i], needed: need.Count()})
		}
		for q.Len() > 0 {
			if !yield(heap.Pop(q).(waiting).transaction) {
				return
			}
		}
	}
}

// waiting transaction, and how many must be visible ahead of it: fewer than ahead of any that needs this one, as that one needs all these, and this one too.
type waiting struct {
	transaction record.Transaction
	needed      int
}

// queue is a heap: on its top is one that needs the fewest.
type queue []waiting

func (q queue) Len() int { return len(q) }

func (q queue) Less(i, j int) bool {
	if q[i].needed != q[j].needed {
		return q[i].needed < q[j].needed
	}
	return record.InOrder(q[i].transaction.Dot, q[j].transaction.Dot) < 0
}

func (q queue) Swap(i, j int) { q[i], q[j] = q[j], q[i] }

func (q *queue) Push(x any) { *q = append(*q, x.(waiting)) }

func (q *queue) Pop() any {
	last := len(*q) - 1
	x := (*q)[last]
	*q = (*q)[:last]
	return x
}
