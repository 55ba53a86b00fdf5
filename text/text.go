// Package text: the texts by which replicas know of one another.
//
// A text is a letter for its kind, the size of the group, the number of the replica that gives it, and the vector of what is visible there. In an answer there follow, of each replica, how many transactions of it there are (they are the last ones that are visible), and these in the order of the dots: what it saw, how many places it writes to, and for each of them, in their order, the key and what is written. A number ends with a space; ahead of bytes stands how many there are. At the end stands the seal.
package text

import (
	"math"
	"strconv"

	"chorus/api"
	"chorus/record"
)

// Head tells who gives a text, and what is visible there.
type Head struct {
	Replica int
	Visible record.Vector
}

// Answer is what an answer tells: the transactions, in the order of the dots, are of each replica the last ones that are visible.
type Answer struct {
	Head         Head
	Transactions []record.Transaction
}

const (
	summaryLetter = 's'
	answerLetter  = 'a'
	insertLetter  = '+'
	removeLetter  = '-'
)

// maxSeq is far beyond what a replica can commit; a vector of such numbers can still be summed up.
const maxSeq = math.MaxInt / api.MaxReplicas

// maxSum is the most that a transaction can add to a counter.
const maxSum = api.MaxWrites * api.MaxAmount

// seal is worked out (by FNV-1a) from all that stands ahead of it: without it a text with another digit in it would pass for one that a replica gave.
func seal(body string) string {
	const start, prime = 14695981039346656037, 1099511628211
	sum := uint64(start)
	for i := range len(body) {
		sum = (sum ^ uint64(body[i])) * prime
	}
	return strconv.FormatUint(sum, 16)
}
