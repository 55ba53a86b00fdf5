package text

import (
	"cmp"
	"maps"
	"slices"
	"strconv"

	"chorus/record"
)

// WriteSummary makes the summary of a replica of a group of that size.
func WriteSummary(replicas int, head Head) string {
	w := &writer{replicas: replicas}
	w.head(summaryLetter, head)
	return w.end()
}

// WriteAnswer makes the answer of a replica of a group of that size.
func WriteAnswer(replicas int, answer Answer) string {
	w := &writer{replicas: replicas}
	w.head(answerLetter, answer.Head)
	var counts record.Vector
	for _, t := range answer.Transactions {
		counts[t.Dot.Replica]++
	}
	w.vector(counts)
	for _, t := range answer.Transactions {
		w.transaction(t)
	}
	return w.end()
}

type writer struct {
	replicas int
	body     []byte
}

func (w *writer) head(letter byte, head Head) {
	w.letter(letter)
	w.number(w.replicas)
	w.number(head.Replica)
	w.vector(head.Visible)
}

func (w *writer) transaction(t record.Transaction) {
	w.vector(t.Saw)
	w.number(len(t.Writes))
	for _, place := range slices.SortedFunc(maps.Keys(t.Writes), inOrder) {
		w.write(place, t.Writes[place])
	}
}

func (w *writer) write(place record.Place, write record.Write) {
	w.bytes(place.Key)
	switch write.Kind {
	case record.Add:
		w.number(write.Amount)
	case record.Assign:
		w.bytes(write.Value)
	case record.Insert:
		w.bytes(place.Element)
		w.letter(insertLetter)
	case record.Remove:
		w.bytes(place.Element)
		w.letter(removeLetter)
	}
}

func (w *writer) vector(v record.Vector) {
	for _, n := range v[:w.replicas] {
		w.number(n)
	}
}

func (w *writer) letter(letter byte) {
	w.body = append(w.body, letter)
}

func (w *writer) number(n int) {
	w.body = append(strconv.AppendInt(w.body, int64(n), 10), ' ')
}

func (w *writer) bytes(s string) {
	w.number(len(s))
	w.body = append(w.body, s...)
}

func (w *writer) end() string {
	body := string(w.body)
	return body + seal(body)
}

func inOrder(a, b record.Place) int {
	return cmp.Or(cmp.Compare(a.Key, b.Key), cmp.Compare(a.Element, b.Element))
}
