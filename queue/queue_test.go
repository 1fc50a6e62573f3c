package queue_test

import (
	"math"
	"math/rand"
	"slices"
	"testing"

	"girandole/queue"
)

// is: what a queue tells of itself.
func is(t *testing.T, q *queue.Queue, room, most int, want ...int64) {
	t.Helper()
	if q.Room() != room || q.Len() != len(want) || q.Most() != most || !slices.Equal(q.List(), want) {
		t.Fatalf("room %d, %d values, %d at most, %v; want %d, %d, %d, %v",
			q.Room(), q.Len(), q.Most(), q.List(), room, len(want), most, want)
	}
}

func puts(t *testing.T, q *queue.Queue, v int64, want bool) {
	t.Helper()
	if got := q.Put(v); got != want {
		t.Fatalf("Put(%d) = %v, want %v", v, got, want)
	}
}

func takes(t *testing.T, q *queue.Queue, want int64, ok bool) {
	t.Helper()
	if v, got := q.Take(); v != want || got != ok {
		t.Fatalf("Take() = %d, %v, want %d, %v", v, got, want, ok)
	}
}

// TestExample: the document's own.
func TestExample(t *testing.T) {
	q := queue.New(2, 7)
	puts(t, q, 8, true)
	puts(t, q, 9, false)
	takes(t, q, 7, true)
}

// TestNew: room for what is asked, for what stands ahead, and for one.
func TestNew(t *testing.T) {
	for _, x := range [...]struct {
		room  int
		ahead []int64
		want  int
	}{
		{0, nil, 1}, {1, nil, 1}, {2, nil, 2}, {-1, nil, 1}, {math.MinInt, nil, 1}, {10000, nil, 10000},
		{0, []int64{}, 1}, {0, []int64{5}, 1}, {1, []int64{5}, 1}, {2, []int64{5}, 2},
		{0, []int64{5, 6, 7}, 3}, {2, []int64{5, 6, 7}, 3}, {3, []int64{5, 6, 7}, 3}, {4, []int64{5, 6, 7}, 4},
		{-9, []int64{5, 6}, 2}, {10000, []int64{5, 6}, 10000},
	} {
		is(t, queue.New(x.room, x.ahead...), x.want, len(x.ahead), x.ahead...)
	}
}

// TestPutTake: values go round, in order; what has no room leaves all as it was.
func TestPutTake(t *testing.T) {
	q := queue.New(3)
	takes(t, q, 0, false)
	is(t, q, 3, 0)
	puts(t, q, 1, true)
	is(t, q, 3, 1, 1)
	puts(t, q, 2, true)
	takes(t, q, 1, true)
	is(t, q, 3, 2, 2)
	puts(t, q, 3, true)
	is(t, q, 3, 2, 2, 3)
	puts(t, q, 4, true)
	is(t, q, 3, 3, 2, 3, 4)
	puts(t, q, 5, false)
	is(t, q, 3, 3, 2, 3, 4)
	takes(t, q, 2, true)
	puts(t, q, 5, true)
	takes(t, q, 3, true)
	takes(t, q, 4, true)
	takes(t, q, 5, true)
	is(t, q, 3, 3)
	takes(t, q, 0, false)
	takes(t, q, 0, false)
	is(t, q, 3, 3)
}

// TestOne: room for just one.
func TestOne(t *testing.T) {
	q := queue.New(1)
	for i := range int64(5) {
		puts(t, q, i, true)
		puts(t, q, 99, false)
		is(t, q, 1, 1, i)
		takes(t, q, i, true)
		takes(t, q, 0, false)
		is(t, q, 1, 1)
	}
}

// TestValues: any value, one that is 0 among these, is one.
func TestValues(t *testing.T) {
	l := []int64{0, math.MinInt64, -1, 0, 0, math.MaxInt64}
	q := queue.New(len(l))
	for _, v := range l {
		puts(t, q, v, true)
	}
	is(t, q, len(l), len(l), l...)
	for _, v := range l {
		takes(t, q, v, true)
	}
	takes(t, q, 0, false)
}

// TestMost: of those that ever were at once, those ahead among them, not of those that came.
func TestMost(t *testing.T) {
	q := queue.New(5, 1, 2, 3)
	for range 3 {
		q.Take()
	}
	is(t, q, 5, 3)
	for i := range int64(3) {
		puts(t, q, i, true)
	}
	is(t, q, 5, 3, 0, 1, 2)
	puts(t, q, 3, true)
	takes(t, q, 0, true)
	is(t, q, 5, 4, 1, 2, 3)
}

// TestFull: the greatest room, all of it.
func TestFull(t *testing.T) {
	q := queue.New(10000)
	for i := range int64(10000) {
		puts(t, q, i, true)
	}
	puts(t, q, 1, false)
	for i := range int64(10000) {
		takes(t, q, i, true)
		puts(t, q, i+10000, true)
	}
	if l := q.List(); len(l) != 10000 || l[0] != 10000 || l[9999] != 19999 || q.Most() != 10000 {
		t.Errorf("there are %d values, %d at most", len(l), q.Most())
	}
}

// TestApart: a queue hangs on no list that it was handed, or that it answered, and on no other queue.
func TestApart(t *testing.T) {
	ahead := []int64{1, 2, 3}
	q, other := queue.New(4, ahead...), queue.New(4, ahead...)
	puts(t, q, 4, true)
	takes(t, q, 1, true)
	if puts(t, q, 5, true); !slices.Equal(ahead, []int64{1, 2, 3}) {
		t.Errorf("what stood ahead is now %v", ahead)
	}
	clear(ahead)
	is(t, q, 4, 4, 2, 3, 4, 5)
	is(t, other, 4, 3, 1, 2, 3)
	l := q.List()
	takes(t, q, 2, true)
	if puts(t, q, 6, true); !slices.Equal(l, []int64{2, 3, 4, 5}) {
		t.Errorf("what was answered is now %v", l)
	}
	clear(l)
	_ = append(l[:0], 7, 7, 7, 7, 7, 7)
	is(t, q, 4, 4, 3, 4, 5, 6)
}

// TestZero: one that New didn't make is empty, and has no room.
func TestZero(t *testing.T) {
	var q queue.Queue
	is(t, &q, 0, 0)
	puts(t, &q, 1, false)
	takes(t, &q, 0, false)
	is(t, &q, 0, 0)
}

// TestByChance: any calls, held against a plain list.
func TestByChance(t *testing.T) {
	r := rand.New(rand.NewSource(1))
	for range 2000 {
		var l []int64
		for range r.Intn(6) {
			l = append(l, int64(r.Intn(9)-4))
		}
		asked := r.Intn(12) - 2
		room, most := max(asked, len(l), 1), len(l)
		q := queue.New(asked, l...)
		for range r.Intn(60) {
			if r.Intn(2) == 0 {
				v := int64(r.Uint64())
				fits := len(l) < room
				if puts(t, q, v, fits); fits {
					l = append(l, v)
				}
			} else if len(l) == 0 {
				takes(t, q, 0, false)
			} else {
				takes(t, q, l[0], true)
				l = l[1:]
			}
			most = max(most, len(l))
			is(t, q, room, most, l...)
		}
	}
}
