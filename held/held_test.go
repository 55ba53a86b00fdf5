package held

import (
	"slices"
	"testing"

	"chorus/api"
	"chorus/record"
)

func dot(replica, seq int) api.Dot { return api.Dot{Replica: replica, Seq: seq} }

func dots(list []record.Transaction) []api.Dot {
	var dots []api.Dot
	for _, t := range list {
		dots = append(dots, t.Dot)
	}
	return dots
}

func sample() *Log {
	var log Log
	for _, d := range []api.Dot{dot(2, 1), dot(0, 1), dot(2, 2), dot(0, 2), dot(0, 3)} {
		log.Add(record.Transaction{Dot: d})
	}
	return &log
}

func TestBeyondListsWhatAVectorDoesNotCover(t *testing.T) {
	log := sample()
	for v, want := range map[record.Vector][]api.Dot{
		{}:         {dot(0, 1), dot(0, 2), dot(0, 3), dot(2, 1), dot(2, 2)},
		{2}:        {dot(0, 3), dot(2, 1), dot(2, 2)},
		{0, 9, 1}:  {dot(0, 1), dot(0, 2), dot(0, 3), dot(2, 2)},
		{3, 0, 1}:  {dot(2, 2)},
		{3, 0, 2}:  nil,
		{99, 0, 9}: nil,
	} {
		if got := dots(log.Beyond(v)); !slices.Equal(got, want) {
			t.Errorf("beyond %v: %v, want %v", v, got, want)
		}
	}
	log.Beyond(record.Vector{})[0].Dot = dot(4, 4)
	if got := log.Beyond(record.Vector{})[0].Dot; got != dot(0, 1) {
		t.Errorf("the list that was given shares memory with the log: %v", got)
	}
}

func TestLetGoDropsWhatAVectorCovers(t *testing.T) {
	for v, want := range map[record.Vector][]api.Dot{
		{}:            {dot(0, 1), dot(0, 2), dot(0, 3), dot(2, 1), dot(2, 2)},
		{0, 9}:        {dot(0, 1), dot(0, 2), dot(0, 3), dot(2, 1), dot(2, 2)},
		{2}:           {dot(0, 3), dot(2, 1), dot(2, 2)},
		{1, 0, 1}:     {dot(0, 2), dot(0, 3), dot(2, 2)},
		{99, 0, 1, 9}: {dot(2, 2)},
		{3, 0, 2}:     nil,
	} {
		log := sample()
		gone := log.LetGo(v)
		if got := dots(log.Beyond(record.Vector{})); gone != 5-len(want) || log.Count() != len(want) || !slices.Equal(got, want) {
			t.Errorf("letting go of %v: %d, left %d: %v, want %v", v, gone, log.Count(), got, want)
		}
		if again := log.LetGo(v); again != 0 {
			t.Errorf("letting go of %v once more: %d", v, again)
		}
		log.Add(record.Transaction{Dot: dot(0, 4)})
		log.Add(record.Transaction{Dot: dot(2, 3)})
		if got := dots(log.Beyond(record.Vector{3, 0, 2})); log.Count() != len(want)+2 || !slices.Equal(got, []api.Dot{dot(0, 4), dot(2, 3)}) {
			t.Errorf("behind letting go of %v: %d, the new ones are %v", v, log.Count(), got)
		}
	}
}

func TestWhatIsLetGoTakesNoMemory(t *testing.T) {
	log := sample()
	before := log.lists[0]
	log.LetGo(record.Vector{2, 0, 2})
	if &log.lists[0][0] == &before[2] {
		t.Error("what is left stands in the list that has those that are gone")
	}
	if log.lists[2] != nil {
		t.Error("an empty list has room")
	}
}
