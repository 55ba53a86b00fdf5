package held

import (
	"slices"
	"testing"

	"chorus/api"
	"chorus/record"
)

func dot(replica, seq int) api.Dot { return api.Dot{Replica: replica, Seq: seq} }

func dots(list []record.Transaction) []api.Dot {
	var dots []api.Dot
	for _, t := range list {
		dots = append(dots, t.Dot)
	}
	return dots
}

func TestBeyondListsWhatAVectorDoesNotCover(t *testing.T) {
	var log Log
	for _, d := range []api.Dot{dot(2, 1), dot(0, 1), dot(2, 2), dot(0, 2), dot(0, 3)} {
		log.Add(record.Transaction{Dot: d})
	}
	for v, want := range map[record.Vector][]api.Dot{
		{}:         {dot(0, 1), dot(0, 2), dot(0, 3), dot(2, 1), dot(2, 2)},
		{2}:        {dot(0, 3), dot(2, 1), dot(2, 2)},
		{0, 9, 1}:  {dot(0, 1), dot(0, 2), dot(0, 3), dot(2, 2)},
		{3, 0, 1}:  {dot(2, 2)},
		{3, 0, 2}:  nil,
		{99, 0, 9}: nil,
	} {
		if got := dots(log.Beyond(v)); !slices.Equal(got, want) {
			t.Errorf("beyond %v: %v, want %v", v, got, want)
		}
	}
	log.Beyond(record.Vector{})[0].Dot = dot(4, 4)
	if got := log.Beyond(record.Vector{})[0].Dot; got != dot(0, 1) {
		t.Errorf("the list that was given shares memory with the log: %v", got)
	}
}
