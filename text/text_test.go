package text

import (
	"maps"
	"strconv"
	"strings"
	"testing"
	"unsafe"

	"chorus/api"
	"chorus/record"
)

func dot(replica, seq int) api.Dot { return api.Dot{Replica: replica, Seq: seq} }

// gaveUp tells whether a reader gave up; any other panic is a fault of the reader.
func gaveUp[T any](t *testing.T, read func(string, int) T, words string, replicas int) (told T, up bool) {
	t.Helper()
	defer func() {
		switch given := recover().(type) {
		case nil:
		case Fault:
			up = true
		default:
			t.Errorf("reading %q panics with %v", words, given)
		}
	}()
	return read(words, replicas), false
}

func isRefused[T any](t *testing.T, read func(string, int) T, words string, replicas int) {
	t.Helper()
	if told, up := gaveUp(t, read, words, replicas); !up {
		t.Errorf("%q is read as %v", words, told)
	}
}

func sameTransaction(a, b record.Transaction) bool {
	return a.Dot == b.Dot && a.Saw == b.Saw && maps.Equal(a.Writes, b.Writes)
}

func sampleAnswer() Answer {
	full := record.Writes{}
	for i := range api.MaxWrites {
		full[record.Place{Key: "s", Element: strconv.Itoa(i)}] = record.Write{Kind: record.Insert}
	}
	return Answer{
		Head: Head{Replica: 2, Visible: record.Vector{3, 7, 1}},
		Transactions: []record.Transaction{
			{Dot: dot(0, 2), Saw: record.Vector{1, 4, 0}, Writes: record.Writes{
				{Key: "c"}:                        {Kind: record.Add, Amount: -maxSum},
				{Key: "c1234567"}:                 {Kind: record.Add, Amount: maxSum},
				{Key: "c0"}:                       {Kind: record.Add},
				{Key: "r"}:                        {Kind: record.Assign},
				{Key: "r\x00 1"}:                  {Kind: record.Assign, Value: "12345678"},
				{Key: "s"}:                        {Kind: record.Insert},
				{Key: "s", Element: " 1 \n\xff"}:  {Kind: record.Remove},
				{Key: "s", Element: "12345678"}:   {Kind: record.Insert},
				{Key: "s1", Element: "\x00+- \t"}: {Kind: record.Remove},
			}},
			{Dot: dot(0, 3), Writes: full},
			{Dot: dot(2, 1), Saw: record.Vector{3, 7, 0}, Writes: record.Writes{{Key: "c"}: {Kind: record.Add, Amount: 1}}},
		},
	}
}

func TestSummaryIsReadAsItWasWritten(t *testing.T) {
	for replicas := 1; replicas <= api.MaxReplicas; replicas++ {
		for replica := range replicas {
			head := Head{Replica: replica}
			for i := range replicas {
				head.Visible[i] = i * i * i * 1000
			}
			head.Visible[replica] = maxSeq
			got, up := gaveUp(t, ReadSummary, WriteSummary(replicas, head), replicas)
			if up || got != head {
				t.Errorf("%v is read as %v, given up %v", head, got, up)
			}
		}
	}
}

func TestAnswerIsReadAsItWasWritten(t *testing.T) {
	for _, want := range []Answer{sampleAnswer(), {Head: Head{Replica: 1, Visible: record.Vector{5, 0, 9}}}, {}} {
		got, up := gaveUp(t, ReadAnswer, WriteAnswer(3, want), 3)
		if up || got.Head != want.Head || len(got.Transactions) != len(want.Transactions) {
			t.Fatalf("%v is read as %v, given up %v", want, got, up)
		}
		for i, transaction := range got.Transactions {
			if !sameTransaction(transaction, want.Transactions[i]) {
				t.Errorf("%v is read as %v", want.Transactions[i], transaction)
			}
		}
	}
}

func TestTheSameIsWrittenTheSame(t *testing.T) {
	want := WriteAnswer(3, sampleAnswer())
	for range 50 {
		if got := WriteAnswer(3, sampleAnswer()); got != want {
			t.Fatalf("%q is written, then %q", want, got)
		}
	}
}

func TestNotWhole(t *testing.T) {
	summary := WriteSummary(3, Head{Replica: 1, Visible: record.Vector{10, 0, 222}})
	answer := WriteAnswer(3, sampleAnswer())
	var words []string
	for _, whole := range []string{summary, answer} {
		for i := range whole {
			words = append(words, whole[:i], whole[:i]+"\x00"+whole[i:], whole[:i]+whole[i+1:], whole[i+1:])
			for _, b := range []byte{whole[i] ^ 1, whole[i] + 1, '0', '9', ' ', '-', 0, 255} {
				if b != whole[i] {
					words = append(words, whole[:i]+string([]byte{b})+whole[i+1:])
				}
			}
		}
		words = append(words, whole+" ", whole+"\x00", whole+"0", whole+summary, whole+answer, " "+whole)
	}
	for _, w := range words {
		isRefused(t, ReadSummary, w, 3)
		isRefused(t, ReadAnswer, w, 3)
	}
	isRefused(t, ReadSummary, answer, 3)
	isRefused(t, ReadAnswer, summary, 3)
	for _, replicas := range []int{1, 2, 4, 5} {
		isRefused(t, ReadSummary, summary, replicas)
		isRefused(t, ReadAnswer, answer, replicas)
	}
}

func sealed(body string) string { return body + seal(body) }

func TestSealedButNoSummary(t *testing.T) {
	if _, up := gaveUp(t, ReadSummary, sealed("s2 1 7 8 "), 2); up {
		t.Error("the summary from which these are made is refused")
	}
	for _, body := range []string{
		"", "s", "s2 ", "s2 1 ", "s2 1 7 ", "s2 1 7 8", // not all of it
		"s2 1 7 8 0 ", "s2 1 7 8  ", "s2 1 7 8 x", // more than it
		"a2 1 7 8 ", "S2 1 7 8 ", " s2 1 7 8 ", "t2 1 7 8 ", // no summary
		"s1 1 7 8 ", "s3 1 7 8 ", "s02 1 7 8 ", "s+2 1 7 8 ", // no such group
		"s2 2 7 8 ", "s2 -1 7 8 ", "s2 -0 7 8 ", // no such replica
		"s2 1 -7 8 ", "s2 1 7 +8 ", "s2 1 07 8 ", "s2 1 7 0x8 ", "s2 1 7 8_0 ", "s2 1  8 ", "s2 1 7 e ", "s2 1\t7 8 ",
		"s2 1 7 99999999999999999999 ", "s2 1 7 9223372036854775807 ", "s2 1 7 " + strconv.Itoa(maxSeq+1) + " ",
	} {
		isRefused(t, ReadSummary, sealed(body), 2)
	}
}

func TestSealedButNoAnswer(t *testing.T) {
	body := "a2 0 3 5 1 2 " + "2 5 1 1 c5 " + "2 1 1 2 r11 x" + "2 4 2 1 s1 e+1 s1 f-"
	if _, up := gaveUp(t, ReadAnswer, sealed(body), 2); up {
		t.Fatal("the answer from which these are made is refused")
	}
	for _, change := range [][2]string{
		{"a2 0 ", "s2 0 "}, {"a2 0 ", "a3 0 "}, {"a2 0 ", "a2 2 "}, {"a2 0 ", "a2 -1 "},
		{" 1 2 2 5", " 4 2 2 5"}, {" 1 2 2 5", " 1 6 2 5"}, {" 1 2 2 5", " 1 -2 2 5"}, // more of a replica than there are, or less than none
		{" 1 2 2 5", " 2 2 2 5"}, {" 1 2 2 5", " 1 1 2 5"}, {" 1 2 2 5", " 0 2 2 5"}, // not as many as stand there
		{"2 5 1 1 c", "3 5 1 1 c"},                            // saw itself
		{"2 4 2 1 s", "2 5 2 1 s"},                            // the same
		{"2 1 1 2 r1", "2 4 1 2 r1"},                          // saw a later one
		{"2 5 1 1 c", "2 6 1 1 c"},                            // saw one that is not visible
		{"2 1 1 2 r1", "4 1 1 2 r1"},                          // the same
		{"2 1 1 2 r1", "3 3 1 2 r1"},                          // saw 0 3, and 1 4 with it: itself
		{"2 5 1 1 c", "1 5 1 1 c"},                            // saw 1 5, but not 0 2, which that one saw
		{"2 4 2 1 s", "0 4 2 1 s"},                            // saw 1 4, but not 0 2, which that one saw
		{"1 1 c", "0 1 c"}, {"1 1 c", "2 1 c"}, {"1 1 c", ""}, // not as many writes as stand there
		{"1 1 c5 ", "0 "}, // none
		{"1 c5 ", "0 5 "}, {"1 c5 ", "9 c123456785 "}, {"1 c5 ", "1 x5 "}, {"1 c5 ", "1 x"}, {"1 c5 ", "-1 c5 "},
		{"1 c5 ", "1 c16000001 "}, {"1 c5 ", "1 c-16000001 "}, {"1 c5 ", "1 c05 "}, {"1 c5 ", "1 c1 x"},
		{"1 x", "9 123456789"}, {"1 x", "99 x"}, {"1 x", "-1 x"}, {"1 x", "2 x"}, {"1 x", "0 x"},
		{"1 e+", "9 123456789+"}, {"e+", "e*"}, {"e+", "e"}, {"f-", "f"}, {"f-", "f- "},
		{"1 s1 e+1 s1 f-", "1 s1 f-1 s1 e+"}, {"1 s1 e+1 s1 f-", "1 s1 e+1 s1 e-"}, {"1 s1 e+1 s1 f-", "2 s11 e+1 s1 f-"},
		{"2 1 s1 e+1 s1 f-", "17 " + strings.Join(manyWrites(17), "")},
	} {
		if strings.Count(body, change[0]) != 1 {
			t.Fatalf("%q does not stand once in %q", change[0], body)
		}
		isRefused(t, ReadAnswer, sealed(strings.Replace(body, change[0], change[1], 1)), 2)
	}
	// 0 3 saw 1 5, which saw nothing, but not 0 2, which 1 4 saw: 1 4 is visible wherever 1 5 is.
	isRefused(t, ReadAnswer, sealed("a2 0 3 5 1 2 "+"1 5 1 1 c5 "+"2 1 1 2 r11 x"+"0 0 1 1 c5 "), 2)
	if _, up := gaveUp(t, ReadAnswer, sealed("a2 0 3 5 1 2 "+"2 5 1 1 c5 "+"2 1 1 2 r11 x"+"0 0 1 1 c5 "), 2); up {
		t.Error("an answer with one that began early is refused")
	}
	for i := range body {
		isRefused(t, ReadAnswer, sealed(body[:i]), 2)
	}
	isRefused(t, ReadAnswer, sealed("a2 0 "+strconv.Itoa(maxSeq)+" 0 "+strconv.Itoa(maxSeq)+" 0 "), 2)
}

func manyWrites(count int) []string {
	var list []string
	for i := range count {
		list = append(list, "2 c"+string(rune('a'+i))+"1 ")
	}
	return list
}

// liesIn tells whether two texts share memory.
func liesIn(part, whole string) bool {
	at, start := uintptr(unsafe.Pointer(unsafe.StringData(part))), uintptr(unsafe.Pointer(unsafe.StringData(whole)))
	return len(part) > 0 && start <= at && at < start+uintptr(len(whole))
}

func TestWhatIsReadSharesNoMemoryWithTheText(t *testing.T) {
	words := WriteAnswer(3, sampleAnswer())
	for _, transaction := range ReadAnswer(words, 3).Transactions {
		for place, write := range transaction.Writes {
			if liesIn(place.Key, words) || liesIn(place.Element, words) || liesIn(write.Value, words) {
				t.Errorf("%v %v lies in the text", place, write)
			}
		}
	}
}

// FuzzReaders: whatever stands ahead of the right seal, a reader reads it or gives up, and what it reads is written as it was.
func FuzzReaders(f *testing.F) {
	f.Add("s3 1 10 0 222 ", 3)
	f.Add("a3 2 1 7 0 1 1 0 0 0 0 1 1 c-16000000 0 6 0 3 8 c12345675 1 r0 1 s8 \x00 \xff+-12 +", 3)
	f.Add("a2 0 3 5 1 2 "+"2 5 1 1 c5 "+"2 1 1 2 r11 x"+"2 4 2 1 s1 e+1 s1 f-", 2)
	f.Fuzz(func(t *testing.T, body string, replicas int) {
		if replicas < 1 || replicas > api.MaxReplicas {
			return
		}
		words := sealed(body)
		if head, up := gaveUp(t, ReadSummary, words, replicas); !up && WriteSummary(replicas, head) != words {
			t.Errorf("%q is read as %v", words, head)
		}
		if answer, up := gaveUp(t, ReadAnswer, words, replicas); !up && WriteAnswer(replicas, answer) != words {
			t.Errorf("%q is read as %v", words, answer)
		}
	})
}
