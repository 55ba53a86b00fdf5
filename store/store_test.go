package store

import (
	"slices"
	"strconv"
	"testing"

	"chorus/api"
	"chorus/record"
)

func dot(replica, seq int) api.Dot { return api.Dot{Replica: replica, Seq: seq} }

func counts(amount int) record.Writes {
	return record.Writes{{Key: "c"}: {Kind: record.Add, Amount: amount}}
}

func assigns(value string) record.Writes {
	return record.Writes{{Key: "r"}: {Kind: record.Assign, Value: value}}
}

func inserts(element string) record.Writes {
	return record.Writes{{Key: "s", Element: element}: {Kind: record.Insert}}
}

func removes(element string) record.Writes {
	return record.Writes{{Key: "s", Element: element}: {Kind: record.Remove}}
}

func check(t *testing.T, n *Snapshot, sum int, values, elements []string) {
	t.Helper()
	if got := n.Sum("c"); got != sum {
		t.Errorf("c is %d, want %d", got, sum)
	}
	if got := n.Values("r"); !slices.Equal(got, values) {
		t.Errorf("r is %q, want %q", got, values)
	}
	if got := n.Elements("s"); !slices.Equal(got, elements) {
		t.Errorf("s is %q, want %q", got, elements)
	}
}

func TestDocumentsExample(t *testing.T) {
	s := New()
	s.Apply(record.Transaction{Dot: dot(1, 1), Writes: assigns("y")})
	s.Apply(record.Transaction{Dot: dot(0, 1), Writes: record.Writes{
		{Key: "r"}:               {Kind: record.Assign, Value: "x"},
		{Key: "c"}:               {Kind: record.Add, Amount: 5},
		{Key: "s", Element: "e"}: {Kind: record.Insert},
	}})
	n := s.Open()
	check(t, n, 5, []string{"x", "y"}, []string{"e"})
	s.Apply(record.Transaction{Dot: dot(1, 2), Saw: record.Vector{1, 1}, Writes: record.Writes{
		{Key: "r"}:               {Kind: record.Assign, Value: "z"},
		{Key: "s", Element: "e"}: {Kind: record.Remove},
	}})
	check(t, s.Open(), 5, []string{"z"}, nil)
	s.Apply(record.Transaction{Dot: dot(0, 2), Saw: record.Vector{1}, Writes: inserts("e")})
	check(t, s.Open(), 5, []string{"z"}, []string{"e"})
	check(t, n, 5, []string{"x", "y"}, []string{"e"})
	if got, want := s.Visible(), (record.Vector{2, 2}); got != want {
		t.Errorf("visible %v, want %v", got, want)
	}
}

func TestRegisterIsToldByReplicaThenNumber(t *testing.T) {
	s := New()
	var first, second []string
	for seq := 1; seq <= 50; seq++ {
		value := strconv.Itoa(seq)
		s.Apply(record.Transaction{Dot: dot(1, seq), Writes: assigns("b" + value)})
		s.Apply(record.Transaction{Dot: dot(0, seq), Writes: assigns("a" + value)})
		first, second = append(first, "a"+value), append(second, "b"+value)
	}
	check(t, s.Open(), 0, append(first, second...), nil)
}

func TestSetIsToldInTheOrderOfItsBytes(t *testing.T) {
	s := New()
	want := []string{"", "\x00", "A", "Z", "a", "aa", "ab", "b", "z", "\xc3\xa9", "\xff"}
	for i, element := range []string{"b", "\xff", "aa", "Z", "", "z", "a", "\x00", "\xc3\xa9", "A", "ab"} {
		s.Apply(record.Transaction{Dot: dot(0, i+1), Saw: s.visible, Writes: inserts(element)})
	}
	check(t, s.Open(), 0, nil, want)
}

func TestRemoveThatSawOneInsertLeavesAnother(t *testing.T) {
	s := New()
	s.Apply(record.Transaction{Dot: dot(0, 1), Writes: inserts("e")})
	s.Apply(record.Transaction{Dot: dot(1, 1), Saw: record.Vector{1}, Writes: inserts("e")})
	s.Apply(record.Transaction{Dot: dot(2, 1), Saw: record.Vector{1}, Writes: removes("e")})
	check(t, s.Open(), 0, nil, []string{"e"})
	s.Apply(record.Transaction{Dot: dot(2, 2), Saw: record.Vector{1, 1, 1}, Writes: removes("e")})
	check(t, s.Open(), 0, nil, nil)
}

// size counts all that is kept of what was written.
func size(s *Store) int {
	kept := len(s.versions) + len(s.came)
	for _, dots := range s.came {
		kept += len(dots)
	}
	for _, elements := range s.elements {
		kept += 1 + len(elements)
	}
	for _, n := range s.open {
		kept += len(n.kept)
	}
	return kept
}

// overwrite has a replica's next transactions write to the same places again and again, each one having seen all earlier ones.
func overwrite(s *Store, times int) {
	for i := range times {
		seq := s.visible[0] + 1
		kind := record.Insert
		if seq%2 == 1 {
			kind = record.Remove
		}
		s.Apply(record.Transaction{Dot: dot(0, seq), Saw: s.visible, Writes: record.Writes{
			{Key: "c"}:               {Kind: record.Add, Amount: 1},
			{Key: "r"}:               {Kind: record.Assign, Value: strconv.Itoa(i)},
			{Key: "s", Element: "e"}: {Kind: kind},
		}})
	}
}

func TestNothingIsKeptThatNobodyReads(t *testing.T) {
	s := New()
	overwrite(s, 1)
	first := s.Open()
	overwrite(s, 1)
	small := size(s)
	overwrite(s, 1000)
	if got := size(s); got > small {
		t.Errorf("%d kept behind 1000 transactions, %d ahead of them", got, small)
	}
	for range 100 {
		n := s.Open()
		overwrite(s, 2)
		n.Close()
	}
	if got := size(s); got > small {
		t.Errorf("%d kept behind 100 snapshots, %d ahead of them", got, small)
	}
	check(t, first, 1, []string{"0"}, nil)
	first.Close()
	bare := New()
	overwrite(bare, s.visible[0])
	if got, want := size(s), size(bare); got != want || len(s.open) != 0 {
		t.Errorf("%d kept, and %d snapshots; without snapshots it were %d", got, len(s.open), want)
	}
}

func TestWhatAnotherReadsOutlivesASnapshot(t *testing.T) {
	s := New()
	s.Apply(record.Transaction{Dot: dot(0, 1), Writes: record.Writes{
		{Key: "c"}:               {Kind: record.Add, Amount: 5},
		{Key: "r"}:               {Kind: record.Assign, Value: "x"},
		{Key: "s", Element: "e"}: {Kind: record.Insert},
	}})
	a, b := s.Open(), s.Open()
	s.Apply(record.Transaction{Dot: dot(0, 2), Saw: s.visible, Writes: record.Writes{
		{Key: "c"}:               {Kind: record.Add, Amount: -5},
		{Key: "r"}:               {Kind: record.Assign, Value: "y"},
		{Key: "s", Element: "e"}: {Kind: record.Remove},
	}})
	a.Close()
	check(t, b, 5, []string{"x"}, []string{"e"})
	check(t, s.Open(), 0, []string{"y"}, nil)
}

func TestEmptySetsAndCountersTakeNoRoom(t *testing.T) {
	s := New()
	s.Apply(record.Transaction{Dot: dot(0, 1), Writes: inserts("e")})
	s.Apply(record.Transaction{Dot: dot(0, 2), Saw: s.visible, Writes: removes("e")})
	s.Apply(record.Transaction{Dot: dot(0, 3), Saw: s.visible, Writes: counts(7)})
	s.Apply(record.Transaction{Dot: dot(0, 4), Saw: s.visible, Writes: counts(-7)})
	if got := size(s); got != 0 {
		t.Errorf("%d kept of what is empty", got)
	}
}
