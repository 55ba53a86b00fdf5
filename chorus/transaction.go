package chorus

import (
	"slices"

	"chorus/api"
	"chorus/record"
	"chorus/store"
)

// transaction that is open.
type transaction struct {
	began *store.Snapshot
	calls int // writes that were answered OK; own has fewer, if some went to the same place
	own   record.Writes
}

// write is the last check of each call that writes, as ErrFull is the last error that each of them names.
func (t *transaction) write(place record.Place, write record.Write) api.Errno {
	if t.calls == api.MaxWrites {
		return api.ErrFull
	}
	t.calls++
	t.own.Put(place, write)
	return api.OK
}

func (t *transaction) sum(key string) int {
	return t.began.Sum(key) + t.own[record.Place{Key: key}].Amount
}

func (t *transaction) values(key string) []string {
	if own, ok := t.own[record.Place{Key: key}]; ok {
		return []string{own.Value}
	}
	return t.began.Values(key)
}

func (t *transaction) elements(key string) []string {
	list := slices.DeleteFunc(t.began.Elements(key), func(element string) bool {
		_, ok := t.own[record.Place{Key: key, Element: element}]
		return ok
	})
	for place, write := range t.own {
		if place.Key == key && write.Kind == record.Insert {
			list = append(list, place.Element)
		}
	}
	slices.Sort(list)
	return list
}
