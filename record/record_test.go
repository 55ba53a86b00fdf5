package record

import (
	"maps"
	"slices"
	"testing"

	"chorus/api"
)

func TestPutKeepsSumsAndLastWrites(t *testing.T) {
	w := Writes{}
	w.Put(Place{Key: "c"}, Write{Kind: Add, Amount: 5})
	w.Put(Place{Key: "c"}, Write{Kind: Add, Amount: -7})
	w.Put(Place{Key: "c2"}, Write{Kind: Add, Amount: 1})
	w.Put(Place{Key: "r"}, Write{Kind: Assign, Value: "x"})
	w.Put(Place{Key: "r"}, Write{Kind: Assign, Value: "y"})
	w.Put(Place{Key: "s", Element: "a"}, Write{Kind: Insert})
	w.Put(Place{Key: "s", Element: "a"}, Write{Kind: Remove})
	w.Put(Place{Key: "s", Element: "b"}, Write{Kind: Remove})
	w.Put(Place{Key: "s", Element: "b"}, Write{Kind: Insert})
	want := Writes{
		{Key: "c"}:               {Kind: Add, Amount: -2},
		{Key: "c2"}:              {Kind: Add, Amount: 1},
		{Key: "r"}:               {Kind: Assign, Value: "y"},
		{Key: "s", Element: "a"}: {Kind: Remove},
		{Key: "s", Element: "b"}: {Kind: Insert},
	}
	if !maps.Equal(w, want) {
		t.Errorf("writes %v, want %v", w, want)
	}
}

func TestThingOf(t *testing.T) {
	for key, want := range map[string]Thing{
		"": Nothing, "x": Nothing, "C": Nothing, " c": Nothing, "\x00": Nothing,
		"c": Counter, "r": Register, "s": Set, "c\x00\xff": Counter,
		"r1234567": Register, "s1234567": Set,
		"c12345678": Nothing, "r12345678": Nothing, "s12345678": Nothing,
	} {
		if got := ThingOf(key); got != want {
			t.Errorf("%q names %d, want %d", key, got, want)
		}
	}
}

func TestInOrder(t *testing.T) {
	dots := []api.Dot{{Replica: 0, Seq: 1}, {Replica: 0, Seq: 2}, {Replica: 0, Seq: 10}, {Replica: 1, Seq: 1}, {Replica: 4, Seq: 1}}
	for i, a := range dots {
		for j, b := range dots {
			if got := InOrder(a, b); (got < 0) != (i < j) || (got == 0) != (i == j) {
				t.Errorf("%v and %v compare as %d", a, b, got)
			}
		}
	}
}

func TestCanFollow(t *testing.T) {
	third := Transaction{Dot: api.Dot{Replica: 1, Seq: 3}, Saw: Vector{4, 1}}
	for visible, want := range map[Vector]bool{
		{4, 2}:    true,
		{5, 2, 1}: true,
		{4, 1}:    false, // its replica's earlier one is missing
		{3, 2}:    false, // one that it saw is missing
		{4, 3}:    false, // it is there
		{4, 4}:    false,
		{}:        false,
	} {
		if got := third.CanFollow(visible); got != want {
			t.Errorf("behind %v it can follow: %v, want %v", visible, got, want)
		}
	}
}

func TestNeedsGrowWithTheReplicasEarlierOnes(t *testing.T) {
	list := []Transaction{
		{Dot: api.Dot{Replica: 0, Seq: 4}, Saw: Vector{3, 0, 2}},
		{Dot: api.Dot{Replica: 0, Seq: 5}, Saw: Vector{1}},
		{Dot: api.Dot{Replica: 0, Seq: 6}, Saw: Vector{4, 1}},
		{Dot: api.Dot{Replica: 2, Seq: 1}},
		{Dot: api.Dot{Replica: 2, Seq: 2}, Saw: Vector{3}},
	}
	want := []Vector{{3, 0, 2}, {4, 0, 2}, {5, 1, 2}, {}, {3, 0, 1}}
	if got := Needs(list); !slices.Equal(got, want) {
		t.Errorf("needs %v, want %v", got, want)
	}
}
