package arrival

import (
	"slices"
	"testing"

	"chorus/api"
	"chorus/record"
)

func dot(replica, seq int) api.Dot { return api.Dot{Replica: replica, Seq: seq} }

func order(list ...record.Transaction) []api.Dot {
	var dots []api.Dot
	for t := range InOrder(list) {
		dots = append(dots, t.Dot)
	}
	return dots
}

func TestNothing(t *testing.T) {
	if got := order(); len(got) != 0 {
		t.Errorf("out of nothing comes %v", got)
	}
}

func TestBehindWhatItSaw(t *testing.T) {
	got := order(
		record.Transaction{Dot: dot(0, 1), Saw: record.Vector{0, 1, 1}},
		record.Transaction{Dot: dot(1, 1), Saw: record.Vector{0, 0, 1}},
		record.Transaction{Dot: dot(2, 1)},
	)
	if want := []api.Dot{dot(2, 1), dot(1, 1), dot(0, 1)}; !slices.Equal(got, want) {
		t.Errorf("order %v, want %v", got, want)
	}
}

func TestBehindItsReplicasEarlierOnes(t *testing.T) {
	got := order(
		record.Transaction{Dot: dot(0, 1), Saw: record.Vector{0, 3}},
		record.Transaction{Dot: dot(0, 2)}, // began ahead of the other one, having seen nothing
		record.Transaction{Dot: dot(1, 1)},
		record.Transaction{Dot: dot(1, 2), Saw: record.Vector{0, 1}},
		record.Transaction{Dot: dot(1, 3), Saw: record.Vector{0, 2}},
		record.Transaction{Dot: dot(1, 4), Saw: record.Vector{2, 3}},
	)
	want := []api.Dot{dot(1, 1), dot(1, 2), dot(1, 3), dot(0, 1), dot(0, 2), dot(1, 4)}
	if !slices.Equal(got, want) {
		t.Errorf("order %v, want %v", got, want)
	}
}

func TestNeitherNeedsTheOther(t *testing.T) {
	got := order(
		record.Transaction{Dot: dot(0, 7), Saw: record.Vector{6}},
		record.Transaction{Dot: dot(2, 7), Saw: record.Vector{0, 0, 6}},
		record.Transaction{Dot: dot(3, 1), Saw: record.Vector{0, 6}},
	)
	if want := []api.Dot{dot(0, 7), dot(2, 7), dot(3, 1)}; !slices.Equal(got, want) {
		t.Errorf("order %v, want %v", got, want)
	}
}

func TestItMayBeLeftEarly(t *testing.T) {
	for range InOrder([]record.Transaction{{Dot: dot(0, 1)}, {Dot: dot(1, 1)}}) {
		break
	}
}
