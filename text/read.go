package text

import (
	"strconv"
	"strings"

	"chorus/api"
	"chorus/record"
)

// Fault is what a reader panics with where the text turns out to be none of its kind.
type Fault struct{}

// ReadSummary reads a summary of a replica of a group of that size. It panics with a Fault if the text is none.
func ReadSummary(text string, replicas int) Head {
	r := &reader{replicas: replicas, text: text}
	head := r.head(summaryLetter)
	r.end()
	return head
}

// ReadAnswer reads an answer of a replica of a group of that size. It panics with a Fault if the text is none. What it gives shares no memory with the text.
func ReadAnswer(text string, replicas int) Answer {
	r := &reader{replicas: replicas, text: text}
	head := r.head(answerLetter)
	list := r.transactions(head.Visible)
	r.end()
	return Answer{Head: head, Transactions: list}
}

type reader struct {
	replicas int
	text     string
	at       int // how many bytes have been read
}

// demand gives up unless the text is as it must be.
func demand(ok bool) {
	if !ok {
		panic(Fault{})
	}
}

func (r *reader) head(letter byte) Head {
	demand(r.take(1)[0] == letter)
	r.number(r.replicas, r.replicas)
	replica := r.number(0, r.replicas-1)
	var most record.Vector
	for i := range most {
		most[i] = maxSeq
	}
	return Head{Replica: replica, Visible: r.vector(most)}
}

func (r *reader) transactions(visible record.Vector) []record.Transaction {
	counts := r.vector(visible)
	var list []record.Transaction
	for replica, count := range counts {
		for seq := visible[replica] - count + 1; seq <= visible[replica]; seq++ {
			list = append(list, r.transaction(api.Dot{Replica: replica, Seq: seq}, visible))
		}
	}
	checkSaw(list)
	return list
}

// transaction saw no more than is visible where the text was given, and none that its own replica committed later.
func (r *reader) transaction(dot api.Dot, visible record.Vector) record.Transaction {
	most := visible
	most[dot.Replica] = dot.Seq - 1
	saw := r.vector(most)
	return record.Transaction{Dot: dot, Saw: saw, Writes: r.writes()}
}

// checkSaw gives up where a transaction saw another one without all that must be visible ahead of that one.
func checkSaw(list []record.Transaction) {
	needs := map[api.Dot]record.Vector{}
	for i, need := range record.Needs(list) {
		needs[list[i].Dot] = need
	}
	for _, t := range list {
		for replica, seq := range t.Saw {
			demand(t.Saw.Includes(needs[api.Dot{Replica: replica, Seq: seq}]))
		}
	}
}

func (r *reader) writes() record.Writes {
	writes := record.Writes{}
	var last record.Place // the empty one is ahead of all
	for range r.number(1, api.MaxWrites) {
		place, write := r.write()
		demand(inOrder(last, place) < 0)
		writes[place] = write
		last = place
	}
	return writes
}

func (r *reader) write() (record.Place, record.Write) {
	place := record.Place{Key: r.bytes(api.MaxKey)}
	var write record.Write
	switch record.ThingOf(place.Key) {
	case record.Counter:
		write = record.Write{Kind: record.Add, Amount: r.number(-maxSum, maxSum)}
	case record.Register:
		write = record.Write{Kind: record.Assign, Value: r.bytes(api.MaxValue)}
	case record.Set:
		place.Element = r.bytes(api.MaxValue)
		write = record.Write{Kind: r.change()}
	default:
		demand(false)
	}
	return place, write
}

func (r *reader) change() record.Kind {
	letter := r.take(1)[0]
	demand(letter == insertLetter || letter == removeLetter)
	if letter == insertLetter {
		return record.Insert
	}
	return record.Remove
}

func (r *reader) vector(most record.Vector) record.Vector {
	var v record.Vector
	for i := range r.replicas {
		v[i] = r.number(0, most[i])
	}
	return v
}

// number takes one way alone to write a number, so that there is one text alone for the same.
func (r *reader) number(least, most int) int {
	length := strings.IndexByte(r.text[r.at:], ' ')
	demand(length >= 0)
	digits := r.take(length)
	r.take(1)
	n, err := strconv.Atoi(digits)
	demand(err == nil && strconv.Itoa(n) == digits && least <= n && n <= most)
	return n
}

// bytes gives new memory, as what is read outlives the text.
func (r *reader) bytes(most int) string {
	return strings.Clone(r.take(r.number(0, most)))
}

func (r *reader) take(length int) string {
	demand(length <= len(r.text)-r.at)
	taken := r.text[r.at : r.at+length]
	r.at += length
	return taken
}

// end gives up unless the seal follows, and nothing else.
func (r *reader) end() {
	demand(r.text[r.at:] == seal(r.text[:r.at]))
}
