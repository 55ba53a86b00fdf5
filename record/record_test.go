package record

import (
	"maps"
	"testing"

	"chorus/api"
)

func TestCovers(t *testing.T) {
	v := Vector{2, 0, 5}
	for dot, want := range map[api.Dot]bool{
		{Replica: 0, Seq: 1}: true,
		{Replica: 0, Seq: 2}: true,
		{Replica: 0, Seq: 3}: false,
		{Replica: 1, Seq: 1}: false,
		{Replica: 2, Seq: 5}: true,
		{Replica: 4, Seq: 1}: false,
	} {
		if got := v.Covers(dot); got != want {
			t.Errorf("%v covers %v: %v, want %v", v, dot, got, want)
		}
	}
}

func TestPutKeepsSumsAndLastWrites(t *testing.T) {
	w := Writes{}
	w.Put(Place{Key: "c"}, Write{Kind: Add, Amount: 5})
	w.Put(Place{Key: "c"}, Write{Kind: Add, Amount: -7})
	w.Put(Place{Key: "c2"}, Write{Kind: Add, Amount: 1})
	w.Put(Place{Key: "r"}, Write{Kind: Assign, Value: "x"})
	w.Put(Place{Key: "r"}, Write{Kind: Assign, Value: "y"})
	w.Put(Place{Key: "s", Element: "a"}, Write{Kind: Insert})
	w.Put(Place{Key: "s", Element: "a"}, Write{Kind: Remove})
	w.Put(Place{Key: "s", Element: "b"}, Write{Kind: Remove})
	w.Put(Place{Key: "s", Element: "b"}, Write{Kind: Insert})
	want := Writes{
		{Key: "c"}:               {Kind: Add, Amount: -2},
		{Key: "c2"}:              {Kind: Add, Amount: 1},
		{Key: "r"}:               {Kind: Assign, Value: "y"},
		{Key: "s", Element: "a"}: {Kind: Remove},
		{Key: "s", Element: "b"}: {Kind: Insert},
	}
	if !maps.Equal(w, want) {
		t.Errorf("writes %v, want %v", w, want)
	}
}
