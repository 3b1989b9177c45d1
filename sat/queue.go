package sat

// A queue is a heap of variables: the one with the highest score comes first.
type queue struct {
	heap  []int
	place []int // by variable: where it is in the heap, or -1
	score []int // by variable
	step  int   // what the next conflict adds to scores
}

const (
	firstStep = 1 << 20
	lastStep  = 1 << 40
)

func newQueue(n int) queue {
	q := queue{place: make([]int, n+1), score: make([]int, n+1), step: firstStep}
	for v := 1; v <= n; v++ {
		q.place[v] = len(q.heap)
		q.heap = append(q.heap, v)
	}
	return q
}

// bump raises the score of a variable.
func (q *queue) bump(v int) {
	q.score[v] += q.step
	if q.place[v] >= 0 {
		q.rise(q.place[v])
	}
}

// age makes the scores that are added from now on count more.
func (q *queue) age() {
	q.step += q.step / 16
	if q.step < lastStep {
		return
	}
	q.step /= lastStep / firstStep
	for v := range q.score {
		q.score[v] /= lastStep / firstStep
	}
}

// push adds a variable, unless it is in the queue.
func (q *queue) push(v int) {
	if q.place[v] < 0 {
		q.place[v] = len(q.heap)
		q.heap = append(q.heap, v)
		q.rise(q.place[v])
	}
}

// pop takes the first variable out of a queue that is not empty.
func (q *queue) pop() int {
	first, last := q.heap[0], len(q.heap)-1
	q.put(0, q.heap[last])
	q.heap = q.heap[:last]
	q.place[first] = -1
	if last > 0 {
		q.sink(0)
	}
	return first
}

func (q *queue) put(i, v int) {
	q.heap[i], q.place[v] = v, i
}

// rise moves the variable at i up to where it belongs.
func (q *queue) rise(i int) {
	v := q.heap[i]
	for i > 0 {
		above := (i - 1) / 2
		if q.score[q.heap[above]] >= q.score[v] {
			break
		}
		q.put(i, q.heap[above])
		i = above
	}
	q.put(i, v)
}

// sink moves the variable at i down to where it belongs.
func (q *queue) sink(i int) {
	v := q.heap[i]
	for 2*i+1 < len(q.heap) {
		below := 2*i + 1
		if below+1 < len(q.heap) && q.score[q.heap[below+1]] > q.score[q.heap[below]] {
			below++
		}
		if q.score[q.heap[below]] <= q.score[v] {
			break
		}
		q.put(i, q.heap[below])
		i = below
	}
	q.put(i, v)
}
