package chorus

import (
	"slices"
	"testing"

	"chorus/api"
	"chorus/record"
)

// The model tells by the document's words, from all that was ever committed; replicas must tell the same.

type deed struct {
	kind   record.Kind
	key    string
	text   string
	amount int
}

type modelled struct {
	dot   api.Dot
	saw   record.Vector
	deeds []deed
}

// last gives the transaction's last write to a key (and element, if it is a set).
func (m modelled) last(key, element string) (deed, bool) {
	for _, d := range slices.Backward(m.deeds) {
		if d.key == key && (key[0] != 's' || d.text == element) {
			return d, true
		}
	}
	return deed{}, false
}

func (m modelled) does(kind record.Kind, key, element string) bool {
	d, ok := m.last(key, element)
	return ok && d.kind == kind
}

func (m modelled) added(key string) int {
	sum := 0
	for _, d := range m.deeds {
		if d.key == key {
			sum += d.amount
		}
	}
	return sum
}

// told of a key by some transactions, which stand in the order of their dots.
func told(visible []modelled, key string) api.Value {
	switch key[0] {
	case 'c':
		sum := 0
		for _, m := range visible {
			sum += m.added(key)
		}
		return api.Value{Sum: sum}
	case 'r':
		var list []string
		for _, m := range visible {
			if d, ok := m.last(key, ""); ok && !overridden(visible, m.dot, record.Assign, key, "") {
				list = append(list, d.text)
			}
		}
		return api.Value{List: list}
	}
	var list []string
	for _, element := range modelElements {
		for _, m := range visible {
			if m.does(record.Insert, key, element) && !overridden(visible, m.dot, record.Remove, key, element) {
				list = append(list, element)
				break
			}
		}
	}
	return api.Value{List: list}
}

func overridden(visible []modelled, dot api.Dot, kind record.Kind, key, element string) bool {
	return slices.ContainsFunc(visible, func(other modelled) bool {
		return other.dot != dot && other.does(kind, key, element) && other.saw.Covers(dot)
	})
}

// read is what an open transaction reads by the model.
func read(visible []modelled, own modelled, key string) api.Value {
	v := told(visible, key)
	switch key[0] {
	case 'c':
		v.Sum += own.added(key)
	case 'r':
		if d, ok := own.last(key, ""); ok {
			v.List = []string{d.text}
		}
	default:
		var list []string
		for _, element := range modelElements {
			d, ok := own.last(key, element)
			if ok && d.kind == record.Insert || !ok && slices.Contains(v.List, element) {
				list = append(list, element)
			}
		}
		v.List = list
	}
	return v
}

var modelKeys = []string{"c", "c1", "r", "r1", "s", "s1"}
var modelElements = []string{"", "a", "b", "\xff"}

// sent is a text that is under way; it may be received never, or often.
type sent struct {
	words string
	has   []modelled
}

// walk is one run of a group against the model.
type walk struct {
	t        *testing.T
	seed     uint32
	replicas []*Replica
	open     []map[int]modelled
	history  []modelled // in the order of the dots
	texts    []sent
}

// pick is a fixed run of numbers, so that a failure can be had again.
func (w *walk) pick(n int) int {
	w.seed = w.seed*1664525 + 1013904223
	return int(w.seed>>16) % n
}

func (w *walk) visibleTo(saw record.Vector) []modelled {
	var list []modelled
	for _, m := range w.history {
		if saw.Covers(m.dot) {
			list = append(list, m)
		}
	}
	return list
}

func (w *walk) visible(i int) record.Vector {
	var v record.Vector
	copy(v[:], w.replicas[i].Visible())
	return v
}

func (w *walk) begin(i int) {
	tx, err := w.replicas[i].Begin()
	if full := len(w.open[i]) == api.MaxOpen; full != (err == api.ErrFull) {
		w.t.Fatalf("Begin() = %d, %d with %d open", tx, err, len(w.open[i]))
	}
	if err == api.OK {
		w.open[i][tx] = modelled{saw: w.visible(i)}
	}
}

func (w *walk) write(i, tx int) {
	m, r := w.open[i][tx], w.replicas[i]
	d := deed{key: modelKeys[w.pick(len(modelKeys))], text: modelElements[w.pick(len(modelElements))]}
	var err api.Errno
	switch d.key[0] {
	case 'c':
		d.kind, d.amount, d.text = record.Add, w.pick(7)-3, ""
		err = r.Add(tx, d.key, d.amount)
	case 'r':
		d.kind = record.Assign
		err = r.Write(tx, d.key, d.text)
	default:
		if w.pick(2) == 0 {
			d.kind = record.Insert
			err = r.Insert(tx, d.key, d.text)
		} else {
			d.kind = record.Remove
			err = r.Remove(tx, d.key, d.text)
		}
	}
	if full := len(m.deeds) == api.MaxWrites; full != (err == api.ErrFull) {
		w.t.Fatalf("a write behind %d others is answered %d", len(m.deeds), err)
	}
	if err == api.OK {
		m.deeds = append(m.deeds, d)
		w.open[i][tx] = m
	}
}

func (w *walk) commit(i, tx int) {
	m := w.open[i][tx]
	delete(w.open[i], tx)
	want := api.Dot{}
	if len(m.deeds) > 0 {
		want = api.Dot{Replica: i, Seq: w.visible(i)[i] + 1}
	}
	dot, err := w.replicas[i].Commit(tx)
	if dot != want || err != api.OK {
		w.t.Fatalf("Commit(%d) = %v, %d, want %v", tx, dot, err, want)
	}
	if m.dot = dot; len(m.deeds) > 0 {
		w.history = append(w.history, m)
		slices.SortFunc(w.history, func(a, b modelled) int {
			return (a.dot.Replica-b.dot.Replica)*1000000 + a.dot.Seq - b.dot.Seq
		})
	}
}

func (w *walk) abort(i, tx int) {
	delete(w.open[i], tx)
	if err := w.replicas[i].Abort(tx); err != api.OK {
		w.t.Fatalf("Abort(%d) = %d", tx, err)
	}
}

// send has a replica answer the summary of any one.
func (w *walk) send(from, to int) {
	words, err := w.replicas[from].Answer(w.replicas[to].Summary())
	if err != api.OK {
		w.t.Fatalf("Answer = %d", err)
	}
	s, known := sent{words: words}, w.visible(to)
	for _, m := range w.visibleTo(w.visible(from)) {
		if !known.Covers(m.dot) {
			s.has = append(s.has, m)
		}
	}
	w.texts = append(w.texts, s)
}

// receive has a replica receive a text, whomever it was meant for.
func (w *walk) receive(i int, s sent) {
	visible := w.visible(i)
	for again := true; again; {
		again = false
		for _, m := range s.has {
			if m.dot.Seq == visible[m.dot.Replica]+1 && covers(visible, m.saw) {
				visible[m.dot.Replica]++
				again = true
			}
		}
	}
	if err := w.replicas[i].Receive(s.words); err != api.OK {
		w.t.Fatalf("Receive = %d", err)
	}
	if got := w.visible(i); got != visible {
		w.t.Fatalf("replica %d has received what makes %v visible, and tells %v", i, visible, got)
	}
}

func covers(visible, saw record.Vector) bool {
	for i := range saw {
		if saw[i] > visible[i] {
			return false
		}
	}
	return true
}

func (w *walk) step() {
	i := w.pick(len(w.replicas))
	tx := w.pick(api.MaxOpen)
	_, open := w.open[i][tx]
	switch choice := w.pick(12); {
	case choice == 10:
		w.send(i, w.pick(len(w.replicas)))
	case choice == 11 && len(w.texts) > 0:
		w.receive(i, w.texts[w.pick(len(w.texts))])
	case choice <= 2 || !open:
		w.begin(i)
	case choice == 3:
		w.commit(i, tx)
	case choice == 4 && w.pick(3) == 0:
		w.abort(i, tx)
	default:
		w.write(i, tx)
	}
}

func (w *walk) compare() {
	for i, r := range w.replicas {
		for tx, own := range w.open[i] {
			visible := w.visibleTo(own.saw)
			for _, key := range modelKeys {
				want := read(visible, own, key)
				got, err := r.Read(tx, key)
				if err != api.OK || got.Sum != want.Sum || !slices.Equal(got.List, want.List) {
					w.t.Fatalf("replica %d reads %q as %d %q, want %d %q", i, key, got.Sum, got.List, want.Sum, want.List)
				}
				overwriteStrings(got.List)
			}
		}
	}
}

// settle has all hear of all, whereupon they must tell the same.
func (w *walk) settle() {
	settles(w.t, w.replicas)
	for i, r := range w.replicas {
		if got := len(w.visibleTo(w.visible(i))); got != len(w.history) {
			w.t.Fatalf("at replica %d are visible %d of %d", i, got, len(w.history))
		}
		for tx := range w.open[i] {
			w.abort(i, tx)
		}
		tx := begin(w.t, r, 0)
		w.open[i][tx] = modelled{saw: w.visible(i)}
	}
	w.compare()
}

func TestModel(t *testing.T) {
	for seed := range uint32(60) {
		w := &walk{t: t, seed: seed}
		replicas := 1 + int(seed)%api.MaxReplicas
		for i := range replicas {
			w.replicas = append(w.replicas, newReplica(t, i, replicas))
			w.open = append(w.open, map[int]modelled{})
		}
		for range 150 * replicas {
			w.step()
			w.compare()
		}
		w.settle()
	}
}
