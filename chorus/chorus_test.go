package chorus

import (
	"math"
	"slices"
	"strings"
	"testing"

	"chorus/api"
)

func newReplica(t *testing.T, replica, replicas int) *Replica {
	t.Helper()
	r, err := New(replica, replicas)
	if r == nil || err != api.OK {
		t.Fatalf("New(%d, %d) = %v, %d", replica, replicas, r, err)
	}
	return r
}

func begin(t *testing.T, r *Replica, want int) int {
	t.Helper()
	tx, err := r.Begin()
	if tx != want || err != api.OK {
		t.Fatalf("Begin() = %d, %d, want %d", tx, err, want)
	}
	return tx
}

func answers(t *testing.T, what string, got, want api.Errno) {
	t.Helper()
	if got != want {
		t.Errorf("%q = %d, want %d", what, got, want)
	}
}

func commits(t *testing.T, r *Replica, tx int, want api.Dot) {
	t.Helper()
	if dot, err := r.Commit(tx); dot != want || err != api.OK {
		t.Errorf("Commit(%d) = %v, %d, want %v", tx, dot, err, want)
	}
}

func readsSum(t *testing.T, r *Replica, tx int, key string, want int) {
	t.Helper()
	if v, err := r.Read(tx, key); v.Sum != want || len(v.List) != 0 || err != api.OK {
		t.Errorf("Read(%d, %q) = %v, %d, want %d", tx, key, v, err, want)
	}
}

func readsList(t *testing.T, r *Replica, tx int, key string, want ...string) {
	t.Helper()
	if v, err := r.Read(tx, key); v.Sum != 0 || !slices.Equal(v.List, want) || err != api.OK {
		t.Errorf("Read(%d, %q) = %d %q, %d, want %q", tx, key, v.Sum, v.List, err, want)
	}
}

func isVisible(t *testing.T, r *Replica, want ...int) {
	t.Helper()
	if got := r.Visible(); !slices.Equal(got, want) {
		t.Errorf("Visible() = %v, want %v", got, want)
	}
}

// writeAll has a transaction write one of each kind.
func writeAll(t *testing.T, r *Replica, tx int, amount int, value string) {
	t.Helper()
	answers(t, "Add", r.Add(tx, "c", amount), api.OK)
	answers(t, "Write", r.Write(tx, "r", value), api.OK)
	answers(t, "Insert", r.Insert(tx, "s", value), api.OK)
}

func TestP2NewAtTheEdges(t *testing.T) {
	for replicas := -2; replicas <= api.MaxReplicas+2; replicas++ {
		for replica := -2; replica <= api.MaxReplicas+2; replica++ {
			good := 1 <= replicas && replicas <= 5 && 0 <= replica && replica < replicas
			r, err := New(replica, replicas)
			if good != (r != nil) || good != (err == api.OK) || !good && err != api.ErrReplica {
				t.Errorf("New(%d, %d) = %v, %d", replica, replicas, r, err)
			}
			if good {
				isVisible(t, r, make([]int, replicas)...)
			}
		}
	}
	for _, far := range []int{math.MinInt, math.MaxInt} {
		for _, pair := range [][2]int{{far, 3}, {0, far}, {far, far}} {
			if r, err := New(pair[0], pair[1]); r != nil || err != api.ErrReplica {
				t.Errorf("New(%d, %d) = %v, %d", pair[0], pair[1], r, err)
			}
		}
	}
}

func TestP2NewReplicaTellsNothing(t *testing.T) {
	other := newReplica(t, 0, 2)
	tx := begin(t, other, 0)
	writeAll(t, other, tx, 5, "x")
	commits(t, other, tx, api.Dot{Replica: 0, Seq: 1})
	r := newReplica(t, 1, 2)
	tx = begin(t, r, 0)
	readsSum(t, r, tx, "c", 0)
	readsList(t, r, tx, "r")
	readsList(t, r, tx, "s")
	isVisible(t, r, 0, 0)
}

func TestP3LeastFreeNumber(t *testing.T) {
	r := newReplica(t, 0, 1)
	for want := range api.MaxOpen {
		begin(t, r, want)
	}
	for range 2 {
		if tx, err := r.Begin(); tx != 0 || err != api.ErrFull {
			t.Errorf("Begin() of one too many = %d, %d", tx, err)
		}
	}
	answers(t, "Abort", r.Abort(4), api.OK)
	commits(t, r, 1, api.Dot{})
	answers(t, "Write", r.Write(3, "r", "x"), api.OK)
	commits(t, r, 3, api.Dot{Replica: 0, Seq: 1})
	for _, want := range []int{1, 3, 4} {
		begin(t, r, want)
	}
	if tx, err := r.Begin(); tx != 0 || err != api.ErrFull {
		t.Errorf("Begin() of one too many = %d, %d", tx, err)
	}
	answers(t, "Abort", r.Abort(5), api.OK)
	begin(t, r, 5)
}

// writeCalls are the four calls that write, each with its own kind of key; a bad value is one over the edge.
func writeCalls(r *Replica) map[string]func(tx int, goodKey, goodValue bool) api.Errno {
	text := func(call func(int, string, string) api.Errno, key string) func(int, bool, bool) api.Errno {
		return func(tx int, goodKey, goodValue bool) api.Errno {
			value := strings.Repeat("v", api.MaxValue)
			if !goodValue {
				value += "v"
			}
			if !goodKey {
				key = "c"
			}
			return call(tx, key, value)
		}
	}
	return map[string]func(int, bool, bool) api.Errno{
		"Add": func(tx int, goodKey, goodValue bool) api.Errno {
			key, amount := "c", api.MaxAmount
			if !goodValue {
				amount++
			}
			if !goodKey {
				key = "r"
			}
			return r.Add(tx, key, amount)
		},
		"Write":  text(r.Write, "r"),
		"Insert": text(r.Insert, "s"),
		"Remove": text(r.Remove, "s"),
	}
}

func TestP4ErrorsInTheirOrder(t *testing.T) {
	r := newReplica(t, 0, 2)
	roomy, full := begin(t, r, 0), begin(t, r, 1)
	for range api.MaxWrites {
		answers(t, "Add", r.Add(full, "c", 0), api.OK)
	}
	for what := range writeCalls(r) {
		for _, tx := range []int{roomy, full, 2, api.MaxOpen, -1, math.MaxInt, math.MinInt} {
			for _, goodKey := range []bool{true, false} {
				for _, goodValue := range []bool{true, false} {
					want := api.OK
					switch {
					case tx != roomy && tx != full:
						want = api.ErrOpen
					case !goodKey:
						want = api.ErrKey
					case !goodValue:
						want = api.ErrValue
					case tx == full:
						want = api.ErrFull
					}
					answers(t, what, writeCalls(r)[what](tx, goodKey, goodValue), want)
				}
			}
		}
	}
}

func TestP4Keys(t *testing.T) {
	for _, key := range []string{
		"", "c", "r", "s", "x", "C", "R", "S", " c", "\x00", "\xff", "1c",
		"c1234567", "r1234567", "s1234567", "x1234567", "c12345678", "r12345678", "s12345678",
		"c\x00\xff", "r\x00\xff", "s\x00\xff", "céééé", strings.Repeat("c", 1<<16),
	} {
		r := newReplica(t, 0, 1)
		tx := begin(t, r, 0)
		wants := func(first byte) api.Errno {
			if len(key) >= 1 && len(key) <= 8 && key[0] == first {
				return api.OK
			}
			return api.ErrKey
		}
		answers(t, "Add to "+key, r.Add(tx, key, 1), wants('c'))
		answers(t, "Write to "+key, r.Write(tx, key, "v"), wants('r'))
		answers(t, "Insert into "+key, r.Insert(tx, key, "v"), wants('s'))
		answers(t, "Remove from "+key, r.Remove(tx, key, "v"), wants('s'))
		_, err := r.Read(tx, key)
		want := api.ErrKey
		if slices.Contains([]api.Errno{wants('c'), wants('r'), wants('s')}, api.OK) {
			want = api.OK
		}
		answers(t, "Read of "+key, err, want)
	}
}

func TestP4KeysAreToldApart(t *testing.T) {
	r := newReplica(t, 0, 1)
	tx := begin(t, r, 0)
	answers(t, "Add", r.Add(tx, "c", 1), api.OK)
	answers(t, "Add", r.Add(tx, "c\x00", 2), api.OK)
	answers(t, "Add", r.Add(tx, "c1234567", 3), api.OK)
	answers(t, "Write", r.Write(tx, "r", "a"), api.OK)
	answers(t, "Write", r.Write(tx, "r1", "b"), api.OK)
	answers(t, "Insert", r.Insert(tx, "s", "1e"), api.OK)
	answers(t, "Insert", r.Insert(tx, "s1", "e"), api.OK)
	for i := range 2 {
		readsSum(t, r, tx, "c", 1)
		readsSum(t, r, tx, "c\x00", 2)
		readsSum(t, r, tx, "c1234567", 3)
		readsSum(t, r, tx, "c1", 0)
		readsList(t, r, tx, "r", "a")
		readsList(t, r, tx, "r1", "b")
		readsList(t, r, tx, "s", "1e")
		readsList(t, r, tx, "s1", "e")
		if i == 0 {
			commits(t, r, tx, api.Dot{Replica: 0, Seq: 1})
			begin(t, r, 0)
		}
	}
}

func TestP4Values(t *testing.T) {
	for value, want := range map[string]api.Errno{
		"":                      api.OK,
		"v":                     api.OK,
		"12345678":              api.OK,
		"\x00\n\"\\\xff\xfe,;":  api.OK,
		"éééé":                  api.OK,
		"éééé1":                 api.ErrValue,
		"123456789":             api.ErrValue,
		strings.Repeat("v", 99): api.ErrValue,
	} {
		r := newReplica(t, 0, 1)
		tx := begin(t, r, 0)
		answers(t, "Write of "+value, r.Write(tx, "r", value), want)
		answers(t, "Insert of "+value, r.Insert(tx, "s", value), want)
		answers(t, "Remove of "+value, r.Remove(tx, "s2", value), want)
		if want != api.OK {
			readsList(t, r, tx, "r")
			readsList(t, r, tx, "s")
			continue
		}
		commits(t, r, tx, api.Dot{Replica: 0, Seq: 1})
		tx = begin(t, r, 0)
		readsList(t, r, tx, "r", value)
		readsList(t, r, tx, "s", value)
	}
}

func TestP4Amounts(t *testing.T) {
	for amount, want := range map[int]api.Errno{
		0: api.OK, 1: api.OK, -1: api.OK, 1000000: api.OK, -1000000: api.OK,
		1000001: api.ErrValue, -1000001: api.ErrValue, math.MaxInt: api.ErrValue, math.MinInt: api.ErrValue,
	} {
		r := newReplica(t, 0, 1)
		tx := begin(t, r, 0)
		answers(t, "Add", r.Add(tx, "c", amount), want)
		if want == api.OK {
			readsSum(t, r, tx, "c", amount)
		} else {
			readsSum(t, r, tx, "c", 0)
			commits(t, r, tx, api.Dot{})
		}
	}
}

func TestP4EveryCallThatIsAnsweredOKIsAWrite(t *testing.T) {
	r := newReplica(t, 0, 1)
	tx := begin(t, r, 0)
	for range api.MaxWrites / 4 {
		answers(t, "Add", r.Add(tx, "c", 0), api.OK)
		answers(t, "Write", r.Write(tx, "r", "x"), api.OK)
		answers(t, "Insert", r.Insert(tx, "s", "e"), api.OK)
		answers(t, "Remove", r.Remove(tx, "s", "e"), api.OK)
		answers(t, "Add", r.Add(tx, "r", 0), api.ErrKey)
		answers(t, "Add", r.Add(tx, "c", math.MaxInt), api.ErrValue)
	}
	answers(t, "Add", r.Add(tx, "c", 1), api.ErrFull)
	answers(t, "Write", r.Write(tx, "r", "y"), api.ErrFull)
	answers(t, "Insert", r.Insert(tx, "s", "e"), api.ErrFull)
	answers(t, "Remove", r.Remove(tx, "s", "e"), api.ErrFull)
	readsSum(t, r, tx, "c", 0)
	readsList(t, r, tx, "r", "x")
	readsList(t, r, tx, "s")
	other := begin(t, r, 1)
	answers(t, "Add", r.Add(other, "c", 1), api.OK)
	commits(t, r, tx, api.Dot{Replica: 0, Seq: 1})
	begin(t, r, 0)
	answers(t, "Add", r.Add(0, "c", 1), api.OK)
}

func TestP5ReadsItsOwnWrites(t *testing.T) {
	r := newReplica(t, 0, 1)
	tx := begin(t, r, 0)
	answers(t, "Add", r.Add(tx, "c", 10), api.OK)
	answers(t, "Write", r.Write(tx, "r", "old"), api.OK)
	for _, e := range []string{"b", "d", ""} {
		answers(t, "Insert", r.Insert(tx, "s", e), api.OK)
	}
	commits(t, r, tx, api.Dot{Replica: 0, Seq: 1})

	tx = begin(t, r, 0)
	readsSum(t, r, tx, "c", 10)
	readsList(t, r, tx, "r", "old")
	readsList(t, r, tx, "s", "", "b", "d")
	answers(t, "Add", r.Add(tx, "c", -4), api.OK)
	answers(t, "Add", r.Add(tx, "c", -7), api.OK)
	readsSum(t, r, tx, "c", -1)
	answers(t, "Write", r.Write(tx, "r", "new"), api.OK)
	answers(t, "Write", r.Write(tx, "r", ""), api.OK)
	readsList(t, r, tx, "r", "")
	answers(t, "Insert", r.Insert(tx, "s", "b"), api.OK)
	answers(t, "Insert", r.Insert(tx, "s", "\xff"), api.OK)
	answers(t, "Insert", r.Insert(tx, "s", "c"), api.OK)
	answers(t, "Remove", r.Remove(tx, "s", "d"), api.OK)
	answers(t, "Remove", r.Remove(tx, "s", "never"), api.OK)
	readsList(t, r, tx, "s", "", "b", "c", "\xff")
	answers(t, "Remove", r.Remove(tx, "s", "c"), api.OK)
	answers(t, "Insert", r.Insert(tx, "s", "d"), api.OK)
	readsList(t, r, tx, "s", "", "b", "d", "\xff")
}

func TestP5StaysTheSame(t *testing.T) {
	r := newReplica(t, 0, 1)
	tx := begin(t, r, 0)
	writeAll(t, r, tx, 1, "a")
	commits(t, r, tx, api.Dot{Replica: 0, Seq: 1})

	reader, mixed := begin(t, r, 0), begin(t, r, 1)
	answers(t, "Add", r.Add(mixed, "c2", 1), api.OK)
	for seq := 2; seq < 50; seq++ {
		tx := begin(t, r, 2)
		writeAll(t, r, tx, 1, "b")
		answers(t, "Add", r.Add(tx, "c2", 1), api.OK)
		answers(t, "Remove", r.Remove(tx, "s", "a"), api.OK)
		commits(t, r, tx, api.Dot{Replica: 0, Seq: seq})
		for _, old := range []int{reader, mixed} {
			readsSum(t, r, old, "c", 1)
			readsList(t, r, old, "r", "a")
			readsList(t, r, old, "s", "a")
		}
		readsSum(t, r, reader, "c2", 0)
		readsSum(t, r, mixed, "c2", 1)
	}
	answers(t, "Abort", r.Abort(mixed), api.OK)
	readsList(t, r, reader, "r", "a")
	answers(t, "Insert", r.Insert(reader, "s", "z"), api.OK)
	readsList(t, r, reader, "s", "a", "z")
}

func TestP5NobodyReadsWhatIsNotCommitted(t *testing.T) {
	r := newReplica(t, 0, 1)
	writer := begin(t, r, 0)
	writeAll(t, r, writer, 1, "a")
	other := begin(t, r, 1)
	readsSum(t, r, other, "c", 0)
	readsList(t, r, other, "r")
	readsList(t, r, other, "s")
}

func TestP5NeitherSawTheOther(t *testing.T) {
	r := newReplica(t, 2, 3)
	tx := begin(t, r, 0)
	answers(t, "Insert", r.Insert(tx, "s", "e"), api.OK)
	answers(t, "Insert", r.Insert(tx, "s", "f"), api.OK)
	commits(t, r, tx, api.Dot{Replica: 2, Seq: 1})

	a, b, c := begin(t, r, 0), begin(t, r, 1), begin(t, r, 2)
	answers(t, "Write", r.Write(a, "r", "same"), api.OK)
	answers(t, "Write", r.Write(b, "r", "other"), api.OK)
	answers(t, "Write", r.Write(c, "r", "same"), api.OK)
	answers(t, "Insert", r.Insert(a, "s", "e"), api.OK)
	answers(t, "Remove", r.Remove(b, "s", "e"), api.OK)
	answers(t, "Remove", r.Remove(c, "s", "f"), api.OK)
	commits(t, r, c, api.Dot{Replica: 2, Seq: 2})
	commits(t, r, a, api.Dot{Replica: 2, Seq: 3})
	commits(t, r, b, api.Dot{Replica: 2, Seq: 4})

	tx = begin(t, r, 0)
	readsList(t, r, tx, "r", "same", "same", "other")
	readsList(t, r, tx, "s", "e")
	answers(t, "Write", r.Write(tx, "r", "all"), api.OK)
	commits(t, r, tx, api.Dot{Replica: 2, Seq: 5})
	readsList(t, r, begin(t, r, 0), "r", "all")
}

func TestP6CommitAndAbort(t *testing.T) {
	r := newReplica(t, 1, 2)
	a, b, c, d := begin(t, r, 0), begin(t, r, 1), begin(t, r, 2), begin(t, r, 3)
	answers(t, "Add", r.Add(a, "c", 1), api.OK)
	answers(t, "Add", r.Add(b, "c", 0), api.OK)
	answers(t, "Remove", r.Remove(c, "s", "none"), api.OK)
	commits(t, r, c, api.Dot{Replica: 1, Seq: 1})
	commits(t, r, d, api.Dot{})
	commits(t, r, b, api.Dot{Replica: 1, Seq: 2})
	answers(t, "Abort", r.Abort(a), api.OK)
	isVisible(t, r, 0, 2)
	tx := begin(t, r, 0)
	readsSum(t, r, tx, "c", 0)
	writeAll(t, r, tx, 3, "x")
	commits(t, r, tx, api.Dot{Replica: 1, Seq: 3})
	tx = begin(t, r, 0)
	readsSum(t, r, tx, "c", 3)
	readsList(t, r, tx, "r", "x")
	readsList(t, r, tx, "s", "x")
}

func TestP6AbortedHasNeverBeen(t *testing.T) {
	r := newReplica(t, 0, 1)
	tx := begin(t, r, 0)
	writeAll(t, r, tx, 9, "gone")
	answers(t, "Abort", r.Abort(tx), api.OK)
	isVisible(t, r, 0)
	tx = begin(t, r, 0)
	readsSum(t, r, tx, "c", 0)
	readsList(t, r, tx, "r")
	readsList(t, r, tx, "s")
	commits(t, r, tx, api.Dot{})
}

func TestP6NotOpen(t *testing.T) {
	r := newReplica(t, 1, 2)
	begin(t, r, 0)
	ended := begin(t, r, 1)
	writeAll(t, r, ended, 1, "x")
	commits(t, r, ended, api.Dot{Replica: 1, Seq: 1})
	for _, tx := range []int{ended, 2, api.MaxOpen - 1, api.MaxOpen, -1, math.MaxInt, math.MinInt} {
		dot, err := r.Commit(tx)
		answers(t, "Commit", err, api.ErrOpen)
		if dot != (api.Dot{}) {
			t.Errorf("Commit(%d) gives %v beside its error", tx, dot)
		}
		answers(t, "Abort", r.Abort(tx), api.ErrOpen)
		v, err := r.Read(tx, "no key")
		answers(t, "Read", err, api.ErrOpen)
		if v.Sum != 0 || len(v.List) != 0 {
			t.Errorf("Read(%d) gives %v beside its error", tx, v)
		}
	}
	isVisible(t, r, 0, 1)
	begin(t, r, 1)
}

func TestP7VisibleReplicaByReplica(t *testing.T) {
	for replicas := 1; replicas <= api.MaxReplicas; replicas++ {
		for replica := range replicas {
			r := newReplica(t, replica, replicas)
			want := make([]int, replicas)
			isVisible(t, r, want...)
			for seq := 1; seq <= 3; seq++ {
				begin(t, r, 0)
				answers(t, "Add", r.Add(0, "c", 1), api.OK)
				isVisible(t, r, want...)
				commits(t, r, 0, api.Dot{Replica: replica, Seq: seq})
				want[replica] = seq
				isVisible(t, r, want...)
			}
		}
	}
}

func TestP1RefusedCallsChangeNothing(t *testing.T) {
	r := newReplica(t, 0, 2)
	begin(t, r, 0)
	writeAll(t, r, 0, 5, "x")
	commits(t, r, 0, api.Dot{Replica: 0, Seq: 1})
	tx := begin(t, r, 0)
	answers(t, "Write", r.Write(tx, "r", "mine"), api.OK)
	for range 100 {
		answers(t, "Add", r.Add(tx, "s", 1), api.ErrKey)
		answers(t, "Add", r.Add(tx, "c", api.MaxAmount+1), api.ErrValue)
		answers(t, "Write", r.Write(tx, "r", "too long!"), api.ErrValue)
		answers(t, "Insert", r.Insert(tx, "s", "too long!"), api.ErrValue)
		answers(t, "Remove", r.Remove(tx, "r", "x"), api.ErrKey)
		answers(t, "Abort", r.Abort(1), api.ErrOpen)
		if v, err := r.Read(tx, "xyz"); v.Sum != 0 || len(v.List) != 0 || err != api.ErrKey {
			t.Errorf("Read of no key = %v, %d", v, err)
		}
	}
	readsSum(t, r, tx, "c", 5)
	readsList(t, r, tx, "r", "mine")
	readsList(t, r, tx, "s", "x")
	isVisible(t, r, 1, 0)
	for range api.MaxWrites - 1 {
		answers(t, "Add", r.Add(tx, "c", 1), api.OK)
	}
	commits(t, r, tx, api.Dot{Replica: 0, Seq: 2})
}

func overwriteStrings(list []string) {
	list = list[:cap(list)]
	for i := range list {
		list[i] = "?"
	}
}

func TestP1ListsAreNewMemory(t *testing.T) {
	r := newReplica(t, 0, 3)
	begin(t, r, 0)
	writeAll(t, r, 0, 5, "x")
	answers(t, "Insert", r.Insert(0, "s", "y"), api.OK)
	commits(t, r, 0, api.Dot{Replica: 0, Seq: 1})
	old, tx := begin(t, r, 0), begin(t, r, 1)
	answers(t, "Write", r.Write(tx, "r", "own"), api.OK)
	answers(t, "Remove", r.Remove(tx, "s", "x"), api.OK)
	answers(t, "Insert", r.Insert(tx, "s", "z"), api.OK)
	for range 3 {
		for _, reader := range []int{old, tx} {
			for _, key := range []string{"r", "s"} {
				v, _ := r.Read(reader, key)
				overwriteStrings(v.List)
			}
		}
		vector := r.Visible()
		vector = vector[:cap(vector)]
		for i := range vector {
			vector[i] = -9
		}
		readsList(t, r, old, "r", "x")
		readsList(t, r, old, "s", "x", "y")
		readsList(t, r, tx, "r", "own")
		readsList(t, r, tx, "s", "y", "z")
		isVisible(t, r, 1, 0, 0)
	}
	commits(t, r, tx, api.Dot{Replica: 0, Seq: 2})
	readsList(t, r, begin(t, r, 1), "s", "y", "z")
}
