// Package chorus: replicas that always answer, and come to the same: see DOC.md.
package chorus

import (
	"slices"
	"strings"

	"chorus/api"
	"chorus/record"
	"chorus/store"
)

// Replica is one of a group.
type Replica struct {
	replica, replicas int
	store             *store.Store
	open              [api.MaxOpen]*transaction // by their numbers; nil where none is open
}

// New makes a replica (P2).
func New(replica int, replicas int) (*Replica, api.Errno) {
	if replicas < 1 || replicas > api.MaxReplicas || replica < 0 || replica >= replicas {
		return nil, api.ErrReplica
	}
	return &Replica{replica: replica, replicas: replicas, store: store.New()}, api.OK
}

// Begin begins a transaction (P3).
func (r *Replica) Begin() (int, api.Errno) {
	for tx, t := range r.open {
		if t == nil {
			r.open[tx] = &transaction{began: r.store.Open(), own: record.Writes{}}
			return tx, api.OK
		}
	}
	return 0, api.ErrFull
}

// Add adds to a counter (P4).
func (r *Replica) Add(tx int, key string, amount int) api.Errno {
	t := r.find(tx)
	switch {
	case t == nil:
		return api.ErrOpen
	case kindOf(key) != counter:
		return api.ErrKey
	case amount < -api.MaxAmount || amount > api.MaxAmount:
		return api.ErrValue
	}
	return t.write(record.Place{Key: strings.Clone(key)}, record.Write{Kind: record.Add, Amount: amount})
}

// Write writes to a register (P4).
func (r *Replica) Write(tx int, key string, value string) api.Errno {
	t, err := r.writer(tx, register, key, value)
	if err != api.OK {
		return err
	}
	return t.write(record.Place{Key: strings.Clone(key)}, record.Write{Kind: record.Assign, Value: strings.Clone(value)})
}

// Insert puts an element into a set (P4).
func (r *Replica) Insert(tx int, key string, element string) api.Errno {
	return r.change(tx, key, element, record.Insert)
}

// Remove takes an element out of a set (P4).
func (r *Replica) Remove(tx int, key string, element string) api.Errno {
	return r.change(tx, key, element, record.Remove)
}

func (r *Replica) change(tx int, key, element string, kind record.Kind) api.Errno {
	t, err := r.writer(tx, set, key, element)
	if err != api.OK {
		return err
	}
	return t.write(record.Place{Key: strings.Clone(key), Element: strings.Clone(element)}, record.Write{Kind: kind})
}

// writer finds the transaction that is to write a value to a key of that kind.
func (r *Replica) writer(tx int, kind byte, key, value string) (*transaction, api.Errno) {
	t := r.find(tx)
	switch {
	case t == nil:
		return nil, api.ErrOpen
	case kindOf(key) != kind:
		return nil, api.ErrKey
	case len(value) > api.MaxValue:
		return nil, api.ErrValue
	}
	return t, api.OK
}

// Read tells what a transaction reads (P5).
func (r *Replica) Read(tx int, key string) (api.Value, api.Errno) {
	t := r.find(tx)
	if t == nil {
		return api.Value{}, api.ErrOpen
	}
	switch kindOf(key) {
	case counter:
		return api.Value{Sum: t.sum(key)}, api.OK
	case register:
		return api.Value{List: t.values(key)}, api.OK
	case set:
		return api.Value{List: t.elements(key)}, api.OK
	}
	return api.Value{}, api.ErrKey
}

// Commit ends a transaction, which becomes visible (P6).
func (r *Replica) Commit(tx int) (api.Dot, api.Errno) {
	t := r.find(tx)
	if t == nil {
		return api.Dot{}, api.ErrOpen
	}
	r.end(tx)
	if t.calls == 0 {
		return api.Dot{}, api.OK
	}
	dot := api.Dot{Replica: r.replica, Seq: r.store.Visible()[r.replica] + 1}
	r.store.Apply(record.Transaction{Dot: dot, Saw: t.began.Saw(), Writes: t.own})
	return dot, api.OK
}

// Abort ends a transaction, which has never been (P6).
func (r *Replica) Abort(tx int) api.Errno {
	if r.find(tx) == nil {
		return api.ErrOpen
	}
	r.end(tx)
	return api.OK
}

// Visible tells what is visible here (P7).
func (r *Replica) Visible() []int {
	visible := r.store.Visible()
	return slices.Clone(visible[:r.replicas])
}

// Summary tells it in a text (P8).
func (r *Replica) Summary() string { return "" }

// Answer tells what a summary lacks (P8).
func (r *Replica) Answer(summary string) (string, api.Errno) { return "", api.OK }

// Receive takes an answer (P9).
func (r *Replica) Receive(answer string) api.Errno { return api.OK }

// Prune lets go of what all others have (P10).
func (r *Replica) Prune() int { return 0 }

// Held tells how many transactions are held (P10).
func (r *Replica) Held() int { return 0 }

// find gives the open transaction of that number, nil if there is none.
func (r *Replica) find(tx int) *transaction {
	if tx < 0 || tx >= len(r.open) {
		return nil
	}
	return r.open[tx]
}

func (r *Replica) end(tx int) {
	r.open[tx].began.Close()
	r.open[tx] = nil
}
