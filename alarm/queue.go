package alarm

import "container/heap"

// alarm is a number, and when it is due.
type alarm struct{ id, at uint64 }

// step is what is done with one alarm: it is due at its time from then on, or is gone.
type step struct {
	alarm
	gone bool
}

// queue has alarms in a heap, that container/heap keeps, and the place of each one in it.
type queue struct {
	heap   []alarm
	places map[uint64]int
}

// has tells whether there is an alarm with that number.
func (q *queue) has(id uint64) bool {
	_, is := q.places[id]
	return is
}

// take takes a step, and tells the one that takes it back.
func (q *queue) take(s step) step {
	place, is := q.places[s.id]
	switch {
	case is && s.gone:
		was := heap.Remove(q, place).(alarm)
		return step{alarm: was}
	case is:
		was := q.heap[place]
		q.heap[place] = s.alarm
		heap.Fix(q, place)
		return step{alarm: was}
	case !s.gone:
		heap.Push(q, s.alarm)
	}
	return step{alarm: s.alarm, gone: true}
}

// Len, Less, Swap, Push and Pop are what container/heap asks for.

func (q *queue) Len() int { return len(q.heap) }

func (q *queue) Less(i, j int) bool {
	a, b := q.heap[i], q.heap[j]
	return a.at < b.at || a.at == b.at && a.id < b.id
}

func (q *queue) Swap(i, j int) {
	q.heap[i], q.heap[j] = q.heap[j], q.heap[i]
	q.places[q.heap[i].id], q.places[q.heap[j].id] = i, j
}

func (q *queue) Push(x any) {
	a := x.(alarm)
	q.places[a.id] = len(q.heap)
	q.heap = append(q.heap, a)
}

func (q *queue) Pop() any {
	last := len(q.heap) - 1
	a := q.heap[last]
	q.heap = q.heap[:last]
	delete(q.places, a.id)
	return a
}
