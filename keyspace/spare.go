package keyspace

import (
	"cmp"
	"container/heap"
	"strconv"

	"cistern/api"
)

// Used is what all keys cost.
func (s *Space) Used() int {
	n := 0
	for _, r := range s.rooms {
		n += r.used()
	}
	return n
}

// Spare makes room; which keys went.
func (s *Space) Spare(need int) ([]string, api.Errno) {
	if s.config.Memory == 0 {
		return nil, api.OK
	}
	most := s.config.Memory - max(need, 0)
	used := s.Used()
	if used <= most {
		return nil, api.OK
	}
	var gone []string
	row := s.dispensable()
	for used > most {
		if len(row) == 0 {
			return gone, api.ErrFull
		}
		f := row.first()
		used -= s.rooms[f.db].cost(f.key)
		s.rooms[f.db].leave(f.key)
		gone = append(gone, strconv.Itoa(f.db)+":"+f.key)
	}
	return gone, api.OK
}

// candidate is a key that may be given up.
type candidate struct {
	db      int
	key     string
	at, use int // the lesser goes first; at is 0, where expiries are not asked
}

// queue is a heap of candidates: mostly few of many go.
type queue []candidate

func (q queue) Len() int { return len(q) }

func (q queue) Less(i, j int) bool {
	return cmp.Or(cmp.Compare(q[i].at, q[j].at), cmp.Compare(q[i].use, q[j].use)) < 0
}

func (q queue) Swap(i, j int) { q[i], q[j] = q[j], q[i] }

// Push and Pop are the heap's own.
func (q *queue) Push(x any) { *q = append(*q, x.(candidate)) }

func (q *queue) Pop() any {
	last := len(*q) - 1
	c := (*q)[last]
	*q = (*q)[:last]
	return c
}

// first takes out the candidate that goes first.
func (q *queue) first() candidate { return heap.Pop(q).(candidate) }

// dispensable gives the keys of the policy's sort.
func (s *Space) dispensable() queue {
	q := make(queue, 0, s.Len(-1))
	for db, r := range s.rooms {
		switch s.config.Policy {
		case api.PolicyOldest:
			for key, h := range r.held {
				q = append(q, candidate{db: db, key: key, use: h.use})
			}
		case api.PolicyVolatile:
			for key := range r.due {
				q = append(q, candidate{db: db, key: key, use: r.held[key].use})
			}
		case api.PolicySoonest:
			for key, at := range r.due {
				q = append(q, candidate{db: db, key: key, at: at, use: r.held[key].use})
			}
		}
	}
	heap.Init(&q)
	return q
}
