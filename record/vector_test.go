package record

import (
	"testing"

	"chorus/api"
)

func TestCovers(t *testing.T) {
	v := Vector{2, 0, 5}
	for dot, want := range map[api.Dot]bool{
		{Replica: 0, Seq: 1}: true,
		{Replica: 0, Seq: 2}: true,
		{Replica: 0, Seq: 3}: false,
		{Replica: 1, Seq: 1}: false,
		{Replica: 2, Seq: 5}: true,
		{Replica: 4, Seq: 1}: false,
	} {
		if got := v.Covers(dot); got != want {
			t.Errorf("%v covers %v: %v, want %v", v, dot, got, want)
		}
	}
}

func TestIncludes(t *testing.T) {
	v := Vector{2, 0, 5}
	for other, want := range map[Vector]bool{
		{}:              true,
		v:               true,
		{1, 0, 4}:       true,
		{3, 0, 5}:       false,
		{0, 1}:          false,
		{0, 0, 6}:       false,
		{2, 0, 5, 0, 1}: false,
	} {
		if got := v.Includes(other); got != want {
			t.Errorf("%v includes %v: %v, want %v", v, other, got, want)
		}
	}
}

func TestJoinMeetCount(t *testing.T) {
	a, b := Vector{2, 0, 5}, Vector{1, 3, 5, 0, 7}
	want := Vector{2, 3, 5, 0, 7}
	if got := a.Join(b); got != want {
		t.Errorf("%v and %v join to %v, want %v", a, b, got, want)
	}
	if got := b.Join(a); got != want {
		t.Errorf("%v and %v join to %v, want %v", b, a, got, want)
	}
	both := Vector{1, 0, 5}
	if got, back := a.Meet(b), b.Meet(a); got != both || back != both {
		t.Errorf("%v and %v meet in %v, %v, want %v", a, b, got, back, both)
	}
	if a != (Vector{2, 0, 5}) {
		t.Errorf("joining or meeting has changed a vector to %v", a)
	}
	if got := want.Count(); got != 17 {
		t.Errorf("%v counts %d", want, got)
	}
}
