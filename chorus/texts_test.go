package chorus

import (
	"slices"
	"strings"
	"testing"

	"chorus/api"
	"chorus/record"
	"chorus/text"
)

// group makes all replicas of a group.
func group(t *testing.T, replicas int) []*Replica {
	t.Helper()
	var list []*Replica
	for replica := range replicas {
		list = append(list, newReplica(t, replica, replicas))
	}
	return list
}

// adds commits a transaction that adds 1 to the counter c.
func adds(t *testing.T, r *Replica, want api.Dot) {
	t.Helper()
	tx, err := r.Begin()
	answers(t, "Begin", err, api.OK)
	answers(t, "Add", r.Add(tx, "c", 1), api.OK)
	commits(t, r, tx, want)
}

func answerTo(t *testing.T, r *Replica, summary string) string {
	t.Helper()
	words, err := r.Answer(summary)
	if words == "" || err != api.OK {
		t.Fatalf("Answer(%q) = %q, %d", summary, words, err)
	}
	return words
}

func receives(t *testing.T, r *Replica, words string) {
	t.Helper()
	answers(t, "Receive "+words, r.Receive(words), api.OK)
}

// hears has a replica hear of all that another one has.
func hears(t *testing.T, r, other *Replica) {
	t.Helper()
	receives(t, r, answerTo(t, other, r.Summary()))
}

func tellsSum(t *testing.T, r *Replica, key string, want int) {
	t.Helper()
	tx, _ := r.Begin()
	readsSum(t, r, tx, key, want)
	answers(t, "Abort", r.Abort(tx), api.OK)
}

func tellsList(t *testing.T, r *Replica, key string, want ...string) {
	t.Helper()
	tx, _ := r.Begin()
	readsList(t, r, tx, key, want...)
	answers(t, "Abort", r.Abort(tx), api.OK)
}

// dotsIn lists what an answer has.
func dotsIn(words string, replicas int) []api.Dot {
	var dots []api.Dot
	for _, t := range text.ReadAnswer(words, replicas).Transactions {
		dots = append(dots, t.Dot)
	}
	return dots
}

func TestP8SummaryTellsWhatIsVisible(t *testing.T) {
	for replicas := 1; replicas <= api.MaxReplicas; replicas++ {
		all := group(t, replicas)
		for replica, r := range all {
			adds(t, r, api.Dot{Replica: replica, Seq: 1})
			adds(t, r, api.Dot{Replica: replica, Seq: 2})
			for _, other := range all {
				hears(t, other, r)
			}
			for giver, r := range all {
				head := text.ReadSummary(r.Summary(), replicas)
				if head.Replica != giver || !slices.Equal(head.Visible[:replicas], r.Visible()) {
					t.Errorf("replica %d, at which %v is visible, tells %v", giver, r.Visible(), head)
				}
			}
		}
	}
}

func TestP8AnswerHasWhatTheSummaryLacks(t *testing.T) {
	all := group(t, 3)
	a, b, c := all[0], all[1], all[2]
	none := c.Summary()
	adds(t, a, api.Dot{Replica: 0, Seq: 1})
	hears(t, b, a)
	early := b.Summary()
	adds(t, b, api.Dot{Replica: 1, Seq: 1})
	adds(t, a, api.Dot{Replica: 0, Seq: 2})
	hears(t, a, b)
	for _, check := range []struct {
		giver   *Replica
		summary string
		want    []api.Dot
	}{
		{a, none, []api.Dot{{Replica: 0, Seq: 1}, {Replica: 0, Seq: 2}, {Replica: 1, Seq: 1}}},
		{a, early, []api.Dot{{Replica: 0, Seq: 2}, {Replica: 1, Seq: 1}}},
		{a, b.Summary(), []api.Dot{{Replica: 0, Seq: 2}}},
		{a, a.Summary(), nil},
		{b, none, []api.Dot{{Replica: 0, Seq: 1}, {Replica: 1, Seq: 1}}},
		{b, early, []api.Dot{{Replica: 1, Seq: 1}}},
		{b, a.Summary(), nil}, // which has more
		{c, none, nil},
		{c, a.Summary(), nil},
	} {
		words := answerTo(t, check.giver, check.summary)
		if got := dotsIn(words, 3); !slices.Equal(got, check.want) {
			t.Errorf("the answer to %q has %v, want %v", check.summary, got, check.want)
		}
		if head := text.ReadAnswer(words, 3).Head; !slices.Equal(head.Visible[:], append(check.giver.Visible(), 0, 0)) {
			t.Errorf("the answer of a replica at which %v is visible tells %v", check.giver.Visible(), head)
		}
	}
}

func TestP8SummaryAndAnswerChangeNothing(t *testing.T) {
	all := group(t, 2)
	a, b := all[0], all[1]
	adds(t, a, api.Dot{Replica: 0, Seq: 1})
	adds(t, b, api.Dot{Replica: 1, Seq: 1})
	summary := a.Summary()
	answer := answerTo(t, a, b.Summary())
	for range 10 {
		if a.Summary() != summary || answerTo(t, a, b.Summary()) != answer {
			t.Fatal("the same is told differently")
		}
	}
	isVisible(t, a, 1, 0)
	isVisible(t, b, 0, 1)
	tellsSum(t, a, "c", 1)
}

func TestP8WhatIsNotCommittedIsNotTold(t *testing.T) {
	all := group(t, 2)
	a, b := all[0], all[1]
	open, gone := begin(t, a, 0), begin(t, a, 1)
	writeAll(t, a, open, 1, "open")
	writeAll(t, a, gone, 1, "gone")
	answers(t, "Abort", a.Abort(gone), api.OK)
	hears(t, b, a)
	isVisible(t, b, 0, 0)
	tellsList(t, b, "r")
}

// brokenTexts are made of whole ones, and are none.
func brokenTexts(whole ...string) []string {
	list := []string{"", " ", "\n", "\x00", "\xff", "0", "s", "a", "summary", "answer", strings.Repeat("9 ", 1000), strings.Repeat("s", 1<<16)}
	for _, w := range whole {
		for i := range w {
			list = append(list, w[:i], w[i+1:], w[:i]+w[i+1:], w[:i]+string([]byte{w[i] + 1})+w[i+1:], w[:i]+string([]byte{w[i] ^ 128})+w[i+1:])
		}
		for _, more := range append([]string{" ", "x", "\x00", "0"}, whole...) {
			list = append(list, w+more, more+w)
		}
	}
	return list
}

func TestP8P9NoWholeText(t *testing.T) {
	all := group(t, 3)
	a, b := all[0], all[1]
	begin(t, a, 0)
	writeAll(t, a, 0, 5, "x")
	answers(t, "Remove", a.Remove(0, "s", "y"), api.OK)
	commits(t, a, 0, api.Dot{Replica: 0, Seq: 1})
	adds(t, b, api.Dot{Replica: 1, Seq: 1})
	open := begin(t, b, 0)
	summary, answer := b.Summary(), answerTo(t, a, b.Summary())
	for _, words := range append(brokenTexts(summary, answer), answer) {
		if told, err := b.Answer(words); told != "" || err != api.ErrText {
			t.Errorf("Answer(%q) = %q, %d", words, told, err)
		}
	}
	for _, words := range append(brokenTexts(summary, answer), summary) {
		answers(t, "Receive "+words, b.Receive(words), api.ErrText)
	}
	if b.Summary() != summary {
		t.Error("texts that were refused have changed the summary")
	}
	isVisible(t, b, 0, 1, 0)
	readsSum(t, b, open, "c", 1)
	tellsSum(t, b, "c", 1)
	receives(t, b, answer)
	isVisible(t, b, 1, 1, 0)
	tellsList(t, b, "r", "x")
}

func TestP8P9TextsOfAGroupOfAnotherSize(t *testing.T) {
	for ours := 1; ours <= api.MaxReplicas; ours++ {
		for theirs := 1; theirs <= api.MaxReplicas; theirs++ {
			if ours == theirs {
				continue
			}
			r, other := newReplica(t, 0, ours), newReplica(t, 0, theirs)
			adds(t, other, api.Dot{Replica: 0, Seq: 1})
			if words, err := r.Answer(other.Summary()); words != "" || err != api.ErrText {
				t.Errorf("Answer to one of %d by one of %d = %q, %d", theirs, ours, words, err)
			}
			none := newReplica(t, theirs-1, theirs).Summary()
			answers(t, "Receive", r.Receive(answerTo(t, other, none)), api.ErrText)
			isVisible(t, r, make([]int, ours)...)
		}
	}
}

func TestP9LostDoubledLate(t *testing.T) {
	all := group(t, 3)
	a, b, c := all[0], all[1], all[2]
	none := c.Summary()
	var ofA []string
	for seq := 1; seq <= 3; seq++ {
		before := a.Summary()
		adds(t, a, api.Dot{Replica: 0, Seq: seq})
		ofA = append(ofA, answerTo(t, a, before)) // this one alone
		hears(t, b, a)
		adds(t, b, api.Dot{Replica: 1, Seq: seq})
	}
	ofB := answerTo(t, b, a.Summary())
	for _, step := range []struct {
		words string
		want  []int
	}{
		{ofB, []int{0, 0, 0}},
		{ofA[1], []int{0, 0, 0}},
		{ofA[0], []int{1, 0, 0}},
		{ofA[0], []int{1, 0, 0}},
		{ofA[2], []int{1, 0, 0}},
		{ofB, []int{1, 1, 0}},
		{ofA[1], []int{2, 1, 0}},
		{ofA[1], []int{2, 1, 0}},
		{ofA[0], []int{2, 1, 0}},
		{answerTo(t, b, none), []int{3, 3, 0}},
		{ofB, []int{3, 3, 0}},
	} {
		receives(t, c, step.words)
		isVisible(t, c, step.want...)
		tellsSum(t, c, "c", step.want[0]+step.want[1])
	}
	for _, r := range all { // those who have it all, and even who gave it
		receives(t, r, ofB)
		receives(t, r, ofA[0])
	}
	isVisible(t, a, 3, 3, 0)
	isVisible(t, b, 3, 3, 0)
	receives(t, a, answerTo(t, a, none))
	isVisible(t, a, 3, 3, 0)
}

func TestP9WhatCannotIsForgotten(t *testing.T) {
	all := group(t, 2)
	a, b := all[0], all[1]
	adds(t, a, api.Dot{Replica: 0, Seq: 1})
	first := answerTo(t, a, b.Summary())
	before := a.Summary()
	adds(t, a, api.Dot{Replica: 0, Seq: 2})
	receives(t, b, answerTo(t, a, before))
	receives(t, b, first)
	isVisible(t, b, 1, 0)
	hears(t, b, a)
	isVisible(t, b, 2, 0)
}

// TestP9OneBehindTheOther has a text in which most transactions need one with a greater dot.
func TestP9OneBehindTheOther(t *testing.T) {
	const last = api.MaxReplicas - 1
	all := group(t, api.MaxReplicas)
	for seq := 1; seq <= 3; seq++ {
		hears(t, all[last], all[1])
		for replica := last; replica > 1; replica-- {
			adds(t, all[replica], api.Dot{Replica: replica, Seq: seq})
			hears(t, all[replica-1], all[replica])
		}
		adds(t, all[1], api.Dot{Replica: 1, Seq: seq})
	}
	hears(t, all[0], all[1])
	isVisible(t, all[0], 0, 3, 3, 3, 3)
	tellsSum(t, all[0], "c", 12)
}

// TestP9CommittedLate: 0 2 saw less than 0 1, and 1 2 saw both.
func TestP9CommittedLate(t *testing.T) {
	all := group(t, 3)
	a, b, c := all[0], all[1], all[2]
	early := begin(t, a, 0)
	answers(t, "Add", a.Add(early, "c", 1), api.OK)
	adds(t, b, api.Dot{Replica: 1, Seq: 1})
	hears(t, a, b)
	late := begin(t, a, 1)
	answers(t, "Add", a.Add(late, "c", 1), api.OK)
	commits(t, a, late, api.Dot{Replica: 0, Seq: 1})
	commits(t, a, early, api.Dot{Replica: 0, Seq: 2})
	hears(t, b, a)
	adds(t, b, api.Dot{Replica: 1, Seq: 2})
	hears(t, c, b)
	isVisible(t, c, 2, 2, 0)
	tellsSum(t, c, "c", 4)
}

func TestP9OnlyBehindAllThatItSaw(t *testing.T) {
	all := group(t, 3)
	a, b, c := all[0], all[1], all[2]
	adds(t, a, api.Dot{Replica: 0, Seq: 1})
	hears(t, b, a)
	adds(t, b, api.Dot{Replica: 1, Seq: 1})
	receives(t, c, answerTo(t, b, a.Summary()))
	isVisible(t, c, 0, 0, 0)
	tellsSum(t, c, "c", 0)
	hears(t, c, b)
	isVisible(t, c, 1, 1, 0)
}

func TestP9OpenTransactionsReadTheSame(t *testing.T) {
	all := group(t, 2)
	a, b := all[0], all[1]
	begin(t, a, 0)
	writeAll(t, a, 0, 5, "x")
	commits(t, a, 0, api.Dot{Replica: 0, Seq: 1})
	before, own := begin(t, b, 0), begin(t, b, 1)
	answers(t, "Add", b.Add(own, "c", 1), api.OK)
	answers(t, "Insert", b.Insert(own, "s", "o"), api.OK)
	for seq := 2; seq < 20; seq++ {
		hears(t, b, a)
		readsSum(t, b, before, "c", 0)
		readsList(t, b, before, "r")
		readsList(t, b, before, "s")
		readsSum(t, b, own, "c", 1)
		readsList(t, b, own, "r")
		readsList(t, b, own, "s", "o")
		begin(t, a, 0)
		writeAll(t, a, 0, 5, "y")
		answers(t, "Remove", a.Remove(0, "s", "x"), api.OK)
		commits(t, a, 0, api.Dot{Replica: 0, Seq: seq})
		if seq == 2 {
			between := begin(t, b, 2)
			answers(t, "Write", b.Write(between, "r", "z"), api.OK)
		}
		readsSum(t, b, 2, "c", 5)
		readsList(t, b, 2, "s", "x")
	}
	commits(t, b, 2, api.Dot{Replica: 1, Seq: 1})
	tellsList(t, b, "r", "y", "z")
	tellsSum(t, b, "c", 90)
	tellsList(t, b, "s", "y")
	hears(t, a, b)
	tellsList(t, a, "r", "y", "z")
}

// settles has all hear of all.
func settles(t *testing.T, all []*Replica) {
	t.Helper()
	for range 2 {
		for _, r := range all {
			for _, other := range all {
				hears(t, r, other)
			}
		}
	}
}

func TestP9RegistersOfSeveral(t *testing.T) {
	all := group(t, 4)
	for _, replica := range []int{2, 0, 3, 1} {
		begin(t, all[replica], 0)
		answers(t, "Write", all[replica].Write(0, "r", "first"), api.OK)
		answers(t, "Write", all[replica].Write(0, "r", []string{"m", "z", "a", "m"}[replica]), api.OK)
		commits(t, all[replica], 0, api.Dot{Replica: replica, Seq: 1})
	}
	hears(t, all[1], all[3])
	begin(t, all[1], 0)
	answers(t, "Write", all[1].Write(0, "r", "k"), api.OK) // saw 1 1 and 3 1
	commits(t, all[1], 0, api.Dot{Replica: 1, Seq: 2})
	settles(t, all)
	for _, r := range all {
		tellsList(t, r, "r", "m", "k", "a")
	}
	begin(t, all[3], 0)
	answers(t, "Write", all[3].Write(0, "r", ""), api.OK)
	commits(t, all[3], 0, api.Dot{Replica: 3, Seq: 2})
	settles(t, all)
	for _, r := range all {
		tellsList(t, r, "r", "")
	}
}

func TestP9SetsOfSeveral(t *testing.T) {
	all := group(t, 3)
	changes := func(replica, seq int, call func(int, string, string) api.Errno, elements ...string) {
		begin(t, all[replica], 0)
		for _, element := range elements {
			answers(t, "a change of "+element, call(0, "s", element), api.OK)
		}
		commits(t, all[replica], 0, api.Dot{Replica: replica, Seq: seq})
	}
	changes(0, 1, all[0].Insert, "b", "d", "a")
	hears(t, all[1], all[0])
	changes(1, 1, all[1].Remove, "b", "d", "never")
	changes(0, 2, all[0].Insert, "b") // which 1 1 did not see
	changes(2, 1, all[2].Insert, "d", "c")
	settles(t, all)
	for _, r := range all {
		tellsList(t, r, "s", "a", "b", "c", "d")
	}
	changes(2, 2, all[2].Remove, "b", "d")
	settles(t, all)
	for _, r := range all {
		tellsList(t, r, "s", "a", "c")
	}
}

func TestP9CountersOfSeveral(t *testing.T) {
	all := group(t, 3)
	for replica, r := range all {
		begin(t, r, 0)
		for range api.MaxWrites {
			answers(t, "Add", r.Add(0, "c", api.MaxAmount-2*api.MaxAmount*(replica%2)), api.OK)
		}
		commits(t, r, 0, api.Dot{Replica: replica, Seq: 1})
	}
	settles(t, all)
	for _, r := range all {
		tellsSum(t, r, "c", api.MaxWrites*api.MaxAmount)
	}
}

func TestP9WhollyOrNotAtAll(t *testing.T) {
	all := group(t, 2)
	a, b := all[0], all[1]
	begin(t, a, 0)
	long := "\x00 \n\xff12:"
	for i := range 4 {
		key := string(rune('0' + i))
		answers(t, "Add", a.Add(0, "c"+key, i-2), api.OK)
		answers(t, "Write", a.Write(0, "r"+key, long[:i*2]), api.OK)
		answers(t, "Insert", a.Insert(0, "s"+key, long[i*2:]), api.OK)
		answers(t, "Remove", a.Remove(0, "s"+key, long[i:]), api.OK)
	}
	commits(t, a, 0, api.Dot{Replica: 0, Seq: 1})
	hears(t, b, a)
	begin(t, b, 0)
	for i := range 4 {
		key := string(rune('0' + i))
		readsSum(t, b, 0, "c"+key, i-2)
		readsList(t, b, 0, "r"+key, long[:i*2])
		if i == 0 {
			readsList(t, b, 0, "s"+key)
		} else {
			readsList(t, b, 0, "s"+key, long[i*2:])
		}
	}
}

// TestP1TextsThatNoReplicaGave: they are well made and could become visible, but for what is told here.
func TestP1TextsThatNoReplicaGave(t *testing.T) {
	r := newReplica(t, 0, 2)
	own := text.WriteAnswer(2, text.Answer{
		Head: text.Head{Replica: 1, Visible: record.Vector{1, 1}},
		Transactions: []record.Transaction{
			{Dot: api.Dot{Replica: 0, Seq: 1}, Writes: record.Writes{{Key: "c"}: {Kind: record.Add, Amount: 5}}},
			{Dot: api.Dot{Replica: 1, Seq: 1}, Writes: record.Writes{{Key: "c"}: {Kind: record.Add, Amount: 7}}},
		},
	})
	adds(t, r, api.Dot{Replica: 0, Seq: 1})
	receives(t, r, own)
	isVisible(t, r, 1, 1)
	tellsSum(t, r, "c", 8) // its own first one is the one that it committed
	const far = 1 << 60
	ahead := text.WriteSummary(2, text.Head{Replica: 1, Visible: record.Vector{far, far}})
	if got := dotsIn(answerTo(t, r, ahead), 2); len(got) != 0 {
		t.Errorf("the answer to a summary that covers all has %v", got)
	}
	receives(t, r, text.WriteAnswer(2, text.Answer{
		Head: text.Head{Replica: 1, Visible: record.Vector{far, far}},
		Transactions: []record.Transaction{
			{Dot: api.Dot{Replica: 0, Seq: far}, Writes: record.Writes{{Key: "c"}: {Kind: record.Add}}},
			{Dot: api.Dot{Replica: 1, Seq: far}, Saw: record.Vector{far, far - 1}, Writes: record.Writes{{Key: "c"}: {Kind: record.Add}}},
		},
	}))
	isVisible(t, r, 1, 1)
}
