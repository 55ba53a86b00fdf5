package chorus

import (
	"slices"
	"strconv"
	"testing"

	"chorus/api"
	"chorus/record"
	"chorus/text"
)

// prunes has a replica let go of so many, and hold so many still.
func prunes(t *testing.T, r *Replica, gone, held int) {
	t.Helper()
	if got := r.Prune(); got != gone {
		t.Errorf("Prune() = %d, want %d", got, gone)
	}
	holds(t, r, held)
}

func holds(t *testing.T, r *Replica, want int) {
	t.Helper()
	for range 2 { // asking changes nothing
		if got := r.Held(); got != want {
			t.Errorf("Held() = %d, want %d", got, want)
		}
	}
}

// tells has a replica answer a summary, and the answer be lost.
func tells(t *testing.T, giver, r *Replica) {
	t.Helper()
	answerTo(t, r, giver.Summary())
}

func TestP10HeldIsWhatIsVisible(t *testing.T) {
	all := group(t, 3)
	a, b := all[0], all[1]
	holds(t, a, 0)
	for seq := 1; seq <= 3; seq++ {
		adds(t, a, api.Dot{Replica: 0, Seq: seq})
		holds(t, a, seq)
	}
	begin(t, a, 0)
	answers(t, "Add", a.Add(0, "c", 1), api.OK)
	holds(t, a, 3) // what is open is not visible
	answers(t, "Abort", a.Abort(0), api.OK)
	begin(t, a, 0)
	commits(t, a, 0, api.Dot{}) // without writes
	holds(t, a, 3)
	adds(t, b, api.Dot{Replica: 1, Seq: 1})
	holds(t, b, 1)
	hears(t, b, a)
	holds(t, b, 4)
	hears(t, b, a)
	holds(t, b, 4)
	holds(t, a, 3)
	holds(t, all[2], 0)
}

func TestP10WhatOthersMayLackIsHeld(t *testing.T) {
	for replicas := 2; replicas <= api.MaxReplicas; replicas++ {
		all := group(t, replicas)
		adds(t, all[0], api.Dot{Replica: 0, Seq: 1})
		for _, r := range all[1:] {
			prunes(t, all[0], 0, 1)
			hears(t, r, all[0])     // it told that it had nothing
			prunes(t, all[0], 0, 1) // for all that is known, the answer is lost
			tells(t, r, all[0])
		}
		prunes(t, all[0], 1, 0)
		prunes(t, all[0], 0, 0)
		for _, r := range all[1 : replicas-1] {
			prunes(t, r, 0, 1) // nothing came from the last one
		}
	}
}

func TestP10AnAnswerTellsTheVectorOfItsGiver(t *testing.T) {
	all := group(t, 3)
	a, b, c := all[0], all[1], all[2]
	adds(t, a, api.Dot{Replica: 0, Seq: 1})
	hears(t, b, a)
	hears(t, c, a)
	adds(t, b, api.Dot{Replica: 1, Seq: 1})
	toC := answerTo(t, b, c.Summary())
	prunes(t, a, 0, 1)
	receives(t, a, toC)
	isVisible(t, a, 1, 1, 0)
	prunes(t, a, 0, 2) // nothing of 0 1 came from c
	receives(t, a, answerTo(t, c, c.Summary()))
	prunes(t, a, 1, 1)
	hears(t, c, b)
	receives(t, a, answerTo(t, c, c.Summary()))
	prunes(t, a, 1, 0)
}

// TestP10AnAnswerOfWhichNothingBecomesVisible tells of its giver all the same.
func TestP10AnAnswerOfWhichNothingBecomesVisible(t *testing.T) {
	all := group(t, 3)
	a, b, c := all[0], all[1], all[2]
	adds(t, a, api.Dot{Replica: 0, Seq: 1})
	hears(t, b, a)
	hears(t, c, a)
	tells(t, c, a)
	adds(t, c, api.Dot{Replica: 2, Seq: 1})
	before := c.Summary()
	adds(t, c, api.Dot{Replica: 2, Seq: 2})
	hears(t, b, c)
	receives(t, a, answerTo(t, b, before))
	isVisible(t, a, 1, 0, 0)
	prunes(t, a, 1, 0)
	hears(t, a, c)
	prunes(t, a, 2, 0) // b was known to have more than was visible here
}

func TestP10ASummaryMayTellOfMoreThanIsVisibleHere(t *testing.T) {
	all := group(t, 2)
	a, b := all[0], all[1]
	adds(t, a, api.Dot{Replica: 0, Seq: 1})
	hears(t, b, a)
	adds(t, b, api.Dot{Replica: 1, Seq: 1})
	late := answerTo(t, b, a.Summary())
	tells(t, b, a)
	prunes(t, a, 1, 0)
	receives(t, a, late)
	prunes(t, a, 1, 0)
}

// TestP10NumberByNumber: neither of two vectors that came from b includes the other one.
func TestP10NumberByNumber(t *testing.T) {
	a := newReplica(t, 0, 2)
	adds(t, a, api.Dot{Replica: 0, Seq: 1})
	adds(t, a, api.Dot{Replica: 0, Seq: 2})
	receives(t, a, text.WriteAnswer(2, text.Answer{
		Head: text.Head{Replica: 1, Visible: record.Vector{0, 2}},
		Transactions: []record.Transaction{
			{Dot: api.Dot{Replica: 1, Seq: 1}, Writes: record.Writes{{Key: "c"}: {Kind: record.Add, Amount: 5}}},
			{Dot: api.Dot{Replica: 1, Seq: 2}, Writes: record.Writes{{Key: "c"}: {Kind: record.Add, Amount: 7}}},
		},
	}))
	holds(t, a, 4)
	answerTo(t, a, text.WriteSummary(2, text.Head{Replica: 1, Visible: record.Vector{1, 1}}))
	prunes(t, a, 3, 1)
	if got := dotsIn(answerTo(t, a, text.WriteSummary(2, text.Head{Replica: 1})), 2); !slices.Equal(got, []api.Dot{{Replica: 0, Seq: 2}}) {
		t.Errorf("%v is held", got)
	}
}

func TestP10AnOlderTextTakesNothingAway(t *testing.T) {
	all := group(t, 2)
	a, b := all[0], all[1]
	none := b.Summary()
	adds(t, a, api.Dot{Replica: 0, Seq: 1})
	hears(t, b, a)
	early := answerTo(t, b, b.Summary())
	adds(t, a, api.Dot{Replica: 0, Seq: 2})
	hears(t, b, a)
	tells(t, b, a)
	answerTo(t, a, none)
	receives(t, a, early)
	answerTo(t, a, none)
	prunes(t, a, 2, 0)
}

// TestP10ItsOwnTextsTellItNothing: of itself it knows what is visible.
func TestP10ItsOwnTextsTellItNothing(t *testing.T) {
	all := group(t, 2)
	a, b := all[0], all[1]
	adds(t, a, api.Dot{Replica: 0, Seq: 1})
	tells(t, a, a)
	receives(t, a, answerTo(t, a, a.Summary()))
	prunes(t, a, 0, 1)
	adds(t, a, api.Dot{Replica: 0, Seq: 2})
	hears(t, b, a)
	tells(t, b, a)
	prunes(t, a, 2, 0)
}

func TestP10ATextThatIsRefusedTellsNothing(t *testing.T) {
	all := group(t, 2)
	a, b := all[0], all[1]
	adds(t, a, api.Dot{Replica: 0, Seq: 1})
	hears(t, b, a)
	summary, answer := b.Summary(), answerTo(t, b, b.Summary())
	for _, words := range append(brokenTexts(summary, answer), answer) {
		if told, err := a.Answer(words); told != "" || err != api.ErrText {
			t.Errorf("Answer(%q) = %q, %d", words, told, err)
		}
	}
	for _, words := range append(brokenTexts(summary, answer), summary) {
		answers(t, "Receive "+words, a.Receive(words), api.ErrText)
	}
	wider := group(t, 3)
	adds(t, wider[0], api.Dot{Replica: 0, Seq: 1})
	hears(t, wider[1], wider[0])
	if told, err := a.Answer(wider[1].Summary()); told != "" || err != api.ErrText {
		t.Errorf("Answer to one of three = %q, %d", told, err)
	}
	answers(t, "Receive", a.Receive(answerTo(t, wider[1], wider[2].Summary())), api.ErrText)
	prunes(t, a, 0, 1)
	receives(t, a, answer)
	prunes(t, a, 1, 0)
}

func TestP10GroupOfOne(t *testing.T) {
	r := newReplica(t, 0, 1)
	prunes(t, r, 0, 0)
	for seq := 1; seq <= 6; seq++ {
		adds(t, r, api.Dot{Replica: 0, Seq: seq})
		holds(t, r, 1+(seq-1)%2)
		if seq%2 == 0 {
			prunes(t, r, 2, 0)
		}
	}
	prunes(t, r, 0, 0)
	isVisible(t, r, 6)
	tellsSum(t, r, "c", 6)
	hears(t, r, r)
	isVisible(t, r, 6)
	holds(t, r, 0)
}

func TestP10P8WhatWasLetGoIsInNoAnswer(t *testing.T) {
	all := group(t, 3)
	a, b, c := all[0], all[1], all[2]
	none := c.Summary()
	adds(t, a, api.Dot{Replica: 0, Seq: 1})
	adds(t, b, api.Dot{Replica: 1, Seq: 1})
	settles(t, all)
	settled := c.Summary()
	adds(t, a, api.Dot{Replica: 0, Seq: 2})
	prunes(t, a, 2, 1)
	hears(t, a, c)
	for _, check := range []struct {
		summary string
		want    []api.Dot
	}{
		{none, []api.Dot{{Replica: 0, Seq: 2}}},
		{settled, []api.Dot{{Replica: 0, Seq: 2}}},
		{a.Summary(), nil},
	} {
		words := answerTo(t, a, check.summary)
		if got := dotsIn(words, 3); !slices.Equal(got, check.want) {
			t.Errorf("the answer to %q has %v, want %v", check.summary, got, check.want)
		}
		if head := text.ReadAnswer(words, 3).Head; head.Visible != (record.Vector{2, 1}) {
			t.Errorf("the answer tells %v", head)
		}
	}
	if got := dotsIn(answerTo(t, b, none), 3); len(got) != 2 {
		t.Errorf("b, which has let nothing go, answers %v", got)
	}
	receives(t, c, answerTo(t, a, none))
	isVisible(t, c, 2, 1, 0)
	tellsSum(t, c, "c", 3)
}

func TestP10WhatComesLateIsNotHeldOnceMore(t *testing.T) {
	all := group(t, 2)
	a, b := all[0], all[1]
	none := b.Summary()
	adds(t, a, api.Dot{Replica: 0, Seq: 1})
	adds(t, a, api.Dot{Replica: 0, Seq: 2})
	late := answerTo(t, a, none)
	settles(t, all)
	back := answerTo(t, b, none)
	prunes(t, a, 2, 0)
	prunes(t, b, 2, 0)
	for range 2 {
		receives(t, a, late)
		receives(t, a, back)
		receives(t, b, late)
		receives(t, b, back)
	}
	for _, r := range all {
		holds(t, r, 0)
		prunes(t, r, 0, 0)
		isVisible(t, r, 2, 0)
		tellsSum(t, r, "c", 2)
	}
}

func TestP10P5WhatIsOpenReadsTheSame(t *testing.T) {
	all := group(t, 2)
	a, b := all[0], all[1]
	begin(t, a, 0)
	writeAll(t, a, 0, 5, "x")
	commits(t, a, 0, api.Dot{Replica: 0, Seq: 1})
	early := begin(t, a, 0)
	begin(t, a, 1)
	writeAll(t, a, 1, 7, "y")
	answers(t, "Remove", a.Remove(1, "s", "x"), api.OK)
	commits(t, a, 1, api.Dot{Replica: 0, Seq: 2})
	late := begin(t, a, 1)
	settles(t, all)
	for range 2 {
		readsSum(t, a, early, "c", 5)
		readsList(t, a, early, "r", "x")
		readsList(t, a, early, "s", "x")
		readsSum(t, a, late, "c", 12)
		readsList(t, a, late, "r", "y")
		readsList(t, a, late, "s", "y")
		a.Prune()
		b.Prune()
	}
	holds(t, a, 0)
	// The early one saw 0 1 alone, though both are let go.
	answers(t, "Write", a.Write(early, "r", "z"), api.OK)
	answers(t, "Remove", a.Remove(early, "s", "x"), api.OK)
	answers(t, "Remove", a.Remove(early, "s", "y"), api.OK)
	commits(t, a, early, api.Dot{Replica: 0, Seq: 3})
	holds(t, a, 1)
	hears(t, b, a)
	for _, r := range all {
		tellsSum(t, r, "c", 12)
		tellsList(t, r, "r", "y", "z")
		tellsList(t, r, "s", "y")
	}
}

// TestP10WhatIsToldIsTheSame: of what was let go it is still known who overrides it.
func TestP10WhatIsToldIsTheSame(t *testing.T) {
	all := group(t, 2)
	a, b := all[0], all[1]
	for replica, r := range all {
		begin(t, r, 0)
		writeAll(t, r, 0, 1+replica, strconv.Itoa(replica))
		answers(t, "Insert", r.Insert(0, "s", "both"), api.OK)
		commits(t, r, 0, api.Dot{Replica: replica, Seq: 1})
	}
	open := begin(t, b, 0) // which has not seen 0 1
	settles(t, all)
	for _, r := range all {
		prunes(t, r, 2, 0)
		tellsSum(t, r, "c", 3)
		tellsList(t, r, "r", "0", "1")
		tellsList(t, r, "s", "0", "1", "both")
	}
	writeAll(t, b, open, -1, "open")
	answers(t, "Remove", b.Remove(open, "s", "both"), api.OK)
	commits(t, b, open, api.Dot{Replica: 1, Seq: 2})
	hears(t, a, b)
	for _, r := range all {
		tellsSum(t, r, "c", 2)
		tellsList(t, r, "r", "0", "open")
		tellsList(t, r, "s", "0", "1", "both", "open")
	}
	begin(t, a, 0)
	answers(t, "Write", a.Write(0, "r", "last"), api.OK)
	answers(t, "Remove", a.Remove(0, "s", "both"), api.OK)
	commits(t, a, 0, api.Dot{Replica: 0, Seq: 2})
	hears(t, b, a)
	for _, r := range all {
		tellsList(t, r, "r", "last")
		tellsList(t, r, "s", "0", "1", "open")
	}
}

// TestP10TextsThatNoReplicaGave: what is not visible here is not held, whatever is told of others.
func TestP10TextsThatNoReplicaGave(t *testing.T) {
	r := newReplica(t, 0, 2)
	adds(t, r, api.Dot{Replica: 0, Seq: 1})
	const far = 1 << 60
	ahead := record.Vector{far, far}
	answerTo(t, r, text.WriteSummary(2, text.Head{Replica: 0, Visible: ahead}))
	receives(t, r, text.WriteAnswer(2, text.Answer{Head: text.Head{Replica: 0, Visible: ahead}}))
	prunes(t, r, 0, 1)
	receives(t, r, text.WriteAnswer(2, text.Answer{Head: text.Head{Replica: 1, Visible: ahead}}))
	prunes(t, r, 1, 0)
	adds(t, r, api.Dot{Replica: 0, Seq: 2})
	holds(t, r, 1)
	prunes(t, r, 1, 0)
	isVisible(t, r, 2, 0)
	tellsSum(t, r, "c", 2)
}

// TestP11TheSameVisibleTellsTheSame, in whatever order it came.
func TestP11TheSameVisibleTellsTheSame(t *testing.T) {
	all := group(t, 4)
	for replica, r := range all[:3] {
		for seq := 1; seq <= 2; seq++ {
			begin(t, r, 0)
			writeAll(t, r, 0, 1, strconv.Itoa(replica))
			answers(t, "Remove", r.Remove(0, "s", "0"), api.OK)
			commits(t, r, 0, api.Dot{Replica: replica, Seq: seq})
		}
	}
	for _, other := range all[:3] {
		hears(t, all[3], other)
	}
	for _, other := range []int{2, 1} {
		hears(t, all[0], all[other])
	}
	for _, r := range []*Replica{all[0], all[3]} {
		isVisible(t, r, 2, 2, 2, 0)
		tellsSum(t, r, "c", 6)
		tellsList(t, r, "r", "0", "1", "2")
		tellsList(t, r, "s", "1", "2")
	}
}

// exchange has of each two replicas one answer the other one's summary, each way; in one turn all summaries are made ahead of all answers, and these ahead of their being received, in the other turn it goes pair by pair.
func exchange(t *testing.T, all []*Replica, together bool) {
	t.Helper()
	if !together {
		for _, r := range all {
			for _, other := range all {
				if r != other {
					hears(t, r, other)
				}
			}
		}
		return
	}
	var summaries []string
	for _, r := range all {
		summaries = append(summaries, r.Summary())
	}
	texts := make([][]string, len(all))
	for i := range all {
		for j, other := range all {
			if i != j {
				texts[i] = append(texts[i], answerTo(t, other, summaries[i]))
			}
		}
	}
	for i, r := range all {
		for _, words := range slices.Backward(texts[i]) {
			receives(t, r, words)
		}
	}
}

func TestP11TwoRoundsAndOneMore(t *testing.T) {
	for replicas := 1; replicas <= api.MaxReplicas; replicas++ {
		for _, together := range []bool{false, true} {
			all := group(t, replicas)
			want := make([]int, replicas)
			for again := 1; again <= 3; again++ { // also where some was let go
				for replica, r := range all {
					for range replica + again {
						want[replica]++
						adds(t, r, api.Dot{Replica: replica, Seq: want[replica]})
					}
					hears(t, all[(replica+again)%replicas], r)
				}
				exchange(t, all, together)
				exchange(t, all, together)
				for _, r := range all {
					isVisible(t, r, want...)
				}
				exchange(t, all, together)
				for _, r := range all {
					r.Prune()
					holds(t, r, 0)
					isVisible(t, r, want...)
				}
			}
		}
	}
}
