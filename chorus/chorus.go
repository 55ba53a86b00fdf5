// Package chorus: replicas that always answer, and come to the same: see DOC.md.
package chorus

import (
	"slices"
	"strings"

	"chorus/api"
	"chorus/arrival"
	"chorus/held"
	"chorus/record"
	"chorus/store"
	"chorus/text"
)

// Replica is one of a group.
type Replica struct {
	replica, replicas int
	store             *store.Store
	held              held.Log
	known             [api.MaxReplicas]record.Vector // what texts told of the others: visible there at least
	open              [api.MaxOpen]*transaction      // by their numbers; nil where none is open
}

// New makes a replica (P2).
func New(replica int, replicas int) (*Replica, api.Errno) {
	if replicas < 1 || replicas > api.MaxReplicas || replica < 0 || replica >= replicas {
		return nil, api.ErrReplica
	}
	return &Replica{replica: replica, replicas: replicas, store: store.New()}, api.OK
}

// Begin begins a transaction (P3).
func (r *Replica) Begin() (int, api.Errno) {
	for tx, t := range r.open {
		if t == nil {
			r.open[tx] = &transaction{began: r.store.Open(), own: record.Writes{}}
			return tx, api.OK
		}
	}
	return 0, api.ErrFull
}

// Add adds to a counter (P4).
func (r *Replica) Add(tx int, key string, amount int) api.Errno {
	t := r.find(tx)
	switch {
	case t == nil:
		return api.ErrOpen
	case record.ThingOf(key) != record.Counter:
		return api.ErrKey
	case amount < -api.MaxAmount || amount > api.MaxAmount:
		return api.ErrValue
	}
	return t.write(record.Place{Key: strings.Clone(key)}, record.Write{Kind: record.Add, Amount: amount})
}

// Write writes to a register (P4).
func (r *Replica) Write(tx int, key string, value string) api.Errno {
	t, err := r.writer(tx, record.Register, key, value)
	if err != api.OK {
		return err
	}
	return t.write(record.Place{Key: strings.Clone(key)}, record.Write{Kind: record.Assign, Value: strings.Clone(value)})
}

// Insert puts an element into a set (P4).
func (r *Replica) Insert(tx int, key string, element string) api.Errno {
	return r.change(tx, key, element, record.Insert)
}

// Remove takes an element out of a set (P4).
func (r *Replica) Remove(tx int, key string, element string) api.Errno {
	return r.change(tx, key, element, record.Remove)
}

func (r *Replica) change(tx int, key, element string, kind record.Kind) api.Errno {
	t, err := r.writer(tx, record.Set, key, element)
	if err != api.OK {
		return err
	}
	return t.write(record.Place{Key: strings.Clone(key), Element: strings.Clone(element)}, record.Write{Kind: kind})
}

// writer finds the transaction that is to write a value to a key of such a thing.
func (r *Replica) writer(tx int, thing record.Thing, key, value string) (*transaction, api.Errno) {
	t := r.find(tx)
	switch {
	case t == nil:
		return nil, api.ErrOpen
	case record.ThingOf(key) != thing:
		return nil, api.ErrKey
	case len(value) > api.MaxValue:
		return nil, api.ErrValue
	}
	return t, api.OK
}

// Read tells what a transaction reads (P5).
func (r *Replica) Read(tx int, key string) (api.Value, api.Errno) {
	t := r.find(tx)
	if t == nil {
		return api.Value{}, api.ErrOpen
	}
	switch record.ThingOf(key) {
	case record.Counter:
		return api.Value{Sum: t.sum(key)}, api.OK
	case record.Register:
		return api.Value{List: t.values(key)}, api.OK
	case record.Set:
		return api.Value{List: t.elements(key)}, api.OK
	}
	return api.Value{}, api.ErrKey
}

// Commit ends a transaction, which becomes visible (P6).
func (r *Replica) Commit(tx int) (api.Dot, api.Errno) {
	t := r.find(tx)
	if t == nil {
		return api.Dot{}, api.ErrOpen
	}
	r.end(tx)
	if t.calls == 0 {
		return api.Dot{}, api.OK
	}
	dot := api.Dot{Replica: r.replica, Seq: r.store.Visible()[r.replica] + 1}
	r.show(record.Transaction{Dot: dot, Saw: t.began.Saw(), Writes: t.own})
	return dot, api.OK
}

// Abort ends a transaction, which has never been (P6).
func (r *Replica) Abort(tx int) api.Errno {
	if r.find(tx) == nil {
		return api.ErrOpen
	}
	r.end(tx)
	return api.OK
}

// Visible tells what is visible here (P7).
func (r *Replica) Visible() []int {
	visible := r.store.Visible()
	return slices.Clone(visible[:r.replicas])
}

// Summary tells it in a text (P8).
func (r *Replica) Summary() string {
	return text.WriteSummary(r.replicas, r.head())
}

// Answer tells what a summary lacks (P8).
func (r *Replica) Answer(summary string) (string, api.Errno) {
	from, err := readText(text.ReadSummary, summary, r.replicas)
	if err != api.OK {
		return "", err
	}
	r.learn(from)
	return text.WriteAnswer(r.replicas, text.Answer{Head: r.head(), Transactions: r.held.Beyond(from.Visible)}), api.OK
}

// Receive takes an answer (P9).
func (r *Replica) Receive(answer string) api.Errno {
	from, err := readText(text.ReadAnswer, answer, r.replicas)
	if err != api.OK {
		return err
	}
	r.learn(from.Head)
	for t := range arrival.InOrder(from.Transactions) {
		if t.CanFollow(r.store.Visible()) {
			r.show(t)
		}
	}
	return api.OK
}

// Prune lets go of what all others have (P10).
func (r *Replica) Prune() int {
	return r.held.LetGo(r.everywhere())
}

// Held tells how many transactions are held (P10).
func (r *Replica) Held() int {
	return r.held.Count()
}

// find gives the open transaction of that number, nil if there is none.
func (r *Replica) find(tx int) *transaction {
	if tx < 0 || tx >= len(r.open) {
		return nil
	}
	return r.open[tx]
}

func (r *Replica) end(tx int) {
	r.open[tx].began.Close()
	r.open[tx] = nil
}

func (r *Replica) head() text.Head {
	return text.Head{Replica: r.replica, Visible: r.store.Visible()}
}

// show makes a transaction visible here.
func (r *Replica) show(t record.Transaction) {
	r.store.Apply(t)
	r.held.Add(t)
}

// learn takes what a text tells of the replica that gave it: joined to what was known, as an older text may come late.
func (r *Replica) learn(giver text.Head) {
	r.known[giver.Replica] = r.known[giver.Replica].Join(giver.Visible)
}

// everywhere is what is visible at every replica, as far as this one knows. Of itself it knows more than its texts tell.
func (r *Replica) everywhere() record.Vector {
	v := r.store.Visible()
	for replica, there := range r.known[:r.replicas] {
		if replica != r.replica {
			v = v.Meet(there)
		}
	}
	return v
}

// readText runs a reader of texts, and answers ErrText if it gives up.
func readText[T any](reader func(words string, replicas int) T, words string, replicas int) (told T, err api.Errno) {
	defer func() {
		switch given := recover().(type) {
		case nil:
		case text.Fault:
			err = api.ErrText
		default:
			panic(given)
		}
	}()
	return reader(words, replicas), api.OK
}
