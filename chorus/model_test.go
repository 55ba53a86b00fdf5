package chorus

import (
	"slices"
	"testing"

	"chorus/api"
	"chorus/record"
)

// The model tells by the document's words, from all that was ever committed; replicas must tell the same.

type deed struct {
	kind   record.Kind
	key    string
	text   string
	amount int
}

type modelled struct {
	dot   api.Dot
	saw   record.Vector
	deeds []deed
}

// last gives the transaction's last write to a key (and element, if it is a set).
func (m modelled) last(key, element string) (deed, bool) {
	for _, d := range slices.Backward(m.deeds) {
		if d.key == key && (key[0] != 's' || d.text == element) {
			return d, true
		}
	}
	return deed{}, false
}

func (m modelled) does(kind record.Kind, key, element string) bool {
	d, ok := m.last(key, element)
	return ok && d.kind == kind
}

func (m modelled) added(key string) int {
	sum := 0
	for _, d := range m.deeds {
		if d.key == key {
			sum += d.amount
		}
	}
	return sum
}

// told of a key by some transactions, which stand in the order of their dots.
func told(visible []modelled, key string) api.Value {
	switch key[0] {
	case 'c':
		sum := 0
		for _, m := range visible {
			sum += m.added(key)
		}
		return api.Value{Sum: sum}
	case 'r':
		var list []string
		for _, m := range visible {
			if d, ok := m.last(key, ""); ok && !overridden(visible, m.dot, record.Assign, key, "") {
				list = append(list, d.text)
			}
		}
		return api.Value{List: list}
	}
	var list []string
	for _, element := range modelElements {
		for _, m := range visible {
			if m.does(record.Insert, key, element) && !overridden(visible, m.dot, record.Remove, key, element) {
				list = append(list, element)
				break
			}
		}
	}
	return api.Value{List: list}
}

func overridden(visible []modelled, dot api.Dot, kind record.Kind, key, element string) bool {
	return slices.ContainsFunc(visible, func(other modelled) bool {
		return other.dot != dot && other.does(kind, key, element) && other.saw.Covers(dot)
	})
}

// read is what an open transaction reads by the model.
func read(visible []modelled, own modelled, key string) api.Value {
	v := told(visible, key)
	switch key[0] {
	case 'c':
		v.Sum += own.added(key)
	case 'r':
		if d, ok := own.last(key, ""); ok {
			v.List = []string{d.text}
		}
	default:
		var list []string
		for _, element := range modelElements {
			d, ok := own.last(key, element)
			if ok && d.kind == record.Insert || !ok && slices.Contains(v.List, element) {
				list = append(list, element)
			}
		}
		v.List = list
	}
	return v
}

var modelKeys = []string{"c", "c1", "r", "r1", "s", "s1"}
var modelElements = []string{"", "a", "b", "\xff"}

// sent is a text that is under way; it may come never, late, or often. A summary has no transactions.
type sent struct {
	words  string
	giver  int
	vector record.Vector
	has    []modelled
}

// walk is one run of a group against the model.
type walk struct {
	t         *testing.T
	seed      uint32
	replicas  []*Replica
	open      []map[int]modelled
	held      []map[api.Dot]bool
	came      [][]sent   // to each replica, all that told it of another one
	history   []modelled // in the order of the dots
	summaries []sent
	answers   []sent
}

func newWalk(t *testing.T, seed uint32, replicas int) *walk {
	w := &walk{t: t, seed: seed, replicas: group(t, replicas), came: make([][]sent, replicas)}
	for range replicas {
		w.open = append(w.open, map[int]modelled{})
		w.held = append(w.held, map[api.Dot]bool{})
	}
	return w
}

// pick is a fixed run of numbers, so that a failure can be had again.
func (w *walk) pick(n int) int {
	w.seed = w.seed*1664525 + 1013904223
	return int(w.seed>>16) % n
}

func (w *walk) visibleTo(saw record.Vector) []modelled {
	var list []modelled
	for _, m := range w.history {
		if saw.Covers(m.dot) {
			list = append(list, m)
		}
	}
	return list
}

func (w *walk) visible(i int) record.Vector {
	var v record.Vector
	copy(v[:], w.replicas[i].Visible())
	return v
}

func (w *walk) begin(i int) {
	tx, err := w.replicas[i].Begin()
	if full := len(w.open[i]) == api.MaxOpen; full != (err == api.ErrFull) {
		w.t.Fatalf("Begin() = %d, %d with %d open", tx, err, len(w.open[i]))
	}
	if err == api.OK {
		w.open[i][tx] = modelled{saw: w.visible(i)}
	}
}

func (w *walk) write(i, tx int) {
	m, r := w.open[i][tx], w.replicas[i]
	d := deed{key: modelKeys[w.pick(len(modelKeys))], text: modelElements[w.pick(len(modelElements))]}
	var err api.Errno
	switch d.key[0] {
	case 'c':
		d.kind, d.amount, d.text = record.Add, w.pick(7)-3, ""
		err = r.Add(tx, d.key, d.amount)
	case 'r':
		d.kind = record.Assign
		err = r.Write(tx, d.key, d.text)
	default:
		if w.pick(2) == 0 {
			d.kind = record.Insert
			err = r.Insert(tx, d.key, d.text)
		} else {
			d.kind = record.Remove
			err = r.Remove(tx, d.key, d.text)
		}
	}
	if full := len(m.deeds) == api.MaxWrites; full != (err == api.ErrFull) {
		w.t.Fatalf("a write behind %d others is answered %d", len(m.deeds), err)
	}
	if err == api.OK {
		m.deeds = append(m.deeds, d)
		w.open[i][tx] = m
	}
}

func (w *walk) commit(i, tx int) {
	m := w.open[i][tx]
	delete(w.open[i], tx)
	want := api.Dot{}
	if len(m.deeds) > 0 {
		want = api.Dot{Replica: i, Seq: w.visible(i)[i] + 1}
	}
	dot, err := w.replicas[i].Commit(tx)
	if dot != want || err != api.OK {
		w.t.Fatalf("Commit(%d) = %v, %d, want %v", tx, dot, err, want)
	}
	if m.dot = dot; len(m.deeds) > 0 {
		w.held[i][dot] = true
		w.history = append(w.history, m)
		slices.SortFunc(w.history, func(a, b modelled) int {
			return (a.dot.Replica-b.dot.Replica)*1000000 + a.dot.Seq - b.dot.Seq
		})
	}
}

func (w *walk) abort(i, tx int) {
	delete(w.open[i], tx)
	if err := w.replicas[i].Abort(tx); err != api.OK {
		w.t.Fatalf("Abort(%d) = %d", tx, err)
	}
}

func (w *walk) summary(i int) sent {
	s := sent{words: w.replicas[i].Summary(), giver: i, vector: w.visible(i)}
	w.summaries = append(w.summaries, s)
	return s
}

// answer has a replica answer a summary, whenever that was made.
func (w *walk) answer(i int, to sent) sent {
	words, err := w.replicas[i].Answer(to.words)
	if err != api.OK {
		w.t.Fatalf("Answer = %d", err)
	}
	w.came[i] = append(w.came[i], to)
	s := sent{words: words, giver: i, vector: w.visible(i)}
	var dots []api.Dot
	for _, m := range w.history {
		if w.held[i][m.dot] && !to.vector.Covers(m.dot) {
			s.has = append(s.has, m)
			dots = append(dots, m.dot)
		}
	}
	if got := dotsIn(words, len(w.replicas)); !slices.Equal(got, dots) {
		w.t.Fatalf("replica %d answers %v, want %v", i, got, dots)
	}
	w.answers = append(w.answers, s)
	return s
}

// receive has a replica receive an answer, whomever it was meant for.
func (w *walk) receive(i int, s sent) {
	visible := w.visible(i)
	for again := true; again; {
		again = false
		for _, m := range s.has {
			if m.dot.Seq == visible[m.dot.Replica]+1 && covers(visible, m.saw) {
				visible[m.dot.Replica]++
				w.held[i][m.dot] = true
				again = true
			}
		}
	}
	if err := w.replicas[i].Receive(s.words); err != api.OK {
		w.t.Fatalf("Receive = %d", err)
	}
	w.came[i] = append(w.came[i], s)
	if got := w.visible(i); got != visible {
		w.t.Fatalf("replica %d has received what makes %v visible, and tells %v", i, visible, got)
	}
}

func (w *walk) hears(i, other int) {
	w.receive(i, w.answer(other, w.summary(i)))
}

// knows tells whether a replica knows that a transaction is visible at another one.
func (w *walk) knows(i, other int, dot api.Dot) bool {
	return slices.ContainsFunc(w.came[i], func(s sent) bool {
		return s.giver == other && s.vector.Covers(dot)
	})
}

func (w *walk) prune(i int) {
	gone := 0
	for dot := range w.held[i] {
		everywhere := true
		for other := range w.replicas {
			everywhere = everywhere && (other == i || w.knows(i, other, dot))
		}
		if everywhere {
			delete(w.held[i], dot)
			gone++
		}
	}
	if got := w.replicas[i].Prune(); got != gone {
		w.t.Fatalf("replica %d has let go of %d, want %d", i, got, gone)
	}
}

func covers(visible, saw record.Vector) bool {
	for i := range saw {
		if saw[i] > visible[i] {
			return false
		}
	}
	return true
}

// step does anything at any replica, and tells at which.
func (w *walk) step() int {
	i, other := w.pick(len(w.replicas)), w.pick(len(w.replicas))
	tx := w.pick(api.MaxOpen)
	_, open := w.open[i][tx]
	switch choice := w.pick(20); {
	case choice == 0:
		w.answer(i, w.summary(other))
	case choice == 1 && len(w.summaries) > 0:
		w.answer(i, w.summaries[w.pick(len(w.summaries))])
	case choice == 2 && len(w.answers) > 0:
		w.receive(i, w.answers[w.pick(len(w.answers))])
	case choice <= 5:
		w.hears(i, other)
	case choice == 6:
		w.prune(i)
	case !open:
		w.begin(i)
	case choice <= 8:
		w.commit(i, tx)
	case choice == 9 && w.pick(3) == 0:
		w.abort(i, tx)
	case choice == 10:
		w.begin(i)
	default:
		w.write(i, tx)
	}
	return i
}

// compare holds a replica against the model.
func (w *walk) compare(i int) {
	holds(w.t, w.replicas[i], len(w.held[i]))
	for tx, own := range w.open[i] {
		visible := w.visibleTo(own.saw)
		for _, key := range modelKeys {
			want := read(visible, own, key)
			got, err := w.replicas[i].Read(tx, key)
			if err != api.OK || got.Sum != want.Sum || !slices.Equal(got.List, want.List) {
				w.t.Fatalf("replica %d reads %q as %d %q, want %d %q", i, key, got.Sum, got.List, want.Sum, want.List)
			}
			overwriteStrings(got.List)
		}
	}
}

func (w *walk) compareAll() {
	for i := range w.replicas {
		w.compare(i)
	}
}

// round has of each two replicas one hear of the other one, each way.
func (w *walk) round() {
	for i := range w.replicas {
		for other := range w.replicas {
			if i != other {
				w.hears(i, other)
			}
		}
	}
}

// settle has all hear of all, whereupon they must tell the same, and hold nothing.
func (w *walk) settle() {
	w.round()
	w.round()
	for i := range w.replicas {
		if got := len(w.visibleTo(w.visible(i))); got != len(w.history) {
			w.t.Fatalf("at replica %d are visible %d of %d", i, got, len(w.history))
		}
	}
	w.round()
	for i, r := range w.replicas {
		w.prune(i)
		holds(w.t, r, 0)
	}
	w.compareAll() // what was open all the while
	for i := range w.replicas {
		if len(w.open[i]) == api.MaxOpen {
			w.abort(i, 0)
		}
		w.begin(i)
	}
	w.compareAll()
}

func TestModel(t *testing.T) {
	for seed := range uint32(60) {
		replicas := 1 + int(seed)%api.MaxReplicas
		w := newWalk(t, seed, replicas)
		for range 3 {
			for range 60 * replicas {
				w.compare(w.step())
			}
			w.compareAll()
			w.settle()
		}
	}
}
