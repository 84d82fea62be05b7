package poly

import (
	"container/heap"

	"isochrone/api"
	"isochrone/wide"
)

// row is a factor times the terms of a list, of which the first ones are taken. next is the monomial of the product that comes next.
type row struct {
	factor term
	taken  int
	next   monomial
}

// rowHeap has the row with the greatest monomial first, and of several with the same one that with the greatest factor, so that sums have the order of the factors.
type rowHeap []*row

func (h rowHeap) Len() int      { return len(h) }
func (h rowHeap) Swap(i, j int) { h[i], h[j] = h[j], h[i] }
func (h *rowHeap) Push(x any)   { *h = append(*h, x.(*row)) }

func (h rowHeap) Less(i, j int) bool {
	if h[i].next != h[j].next {
		return h[i].next > h[j].next
	}
	return h[i].factor.exps > h[j].factor.exps
}

func (h *rowHeap) Pop() any {
	last := len(*h) - 1
	x := (*h)[last]
	*h = (*h)[:last]
	return x
}

// rows are the product of some factors and a list of terms, both in descending order. Its terms are taken in descending order, while the list may still grow.
type rows struct {
	list []term
	// open are the rows with products that are not taken yet, waiting the others.
	open    rowHeap
	waiting []*row
}

func newRows(factors []term) *rows {
	r := new(rows)
	for _, t := range factors {
		r.waiting = append(r.waiting, &row{factor: t})
	}
	return r
}

// extend adds terms, at least one, to the list.
func (r *rows) extend(terms ...term) {
	r.list = append(r.list, terms...)
	for _, w := range r.waiting {
		w.next = w.factor.exps + r.list[w.taken].exps
		heap.Push(&r.open, w)
	}
	r.waiting = r.waiting[:0]
}

// isDone reports whether all products are taken.
func (r *rows) isDone() bool {
	return len(r.open) == 0
}

// next returns the monomial that take takes. Both need a product that is not taken.
func (r *rows) next() monomial {
	return r.open[0].next
}

// take takes all products with the greatest monomial and returns their sum, whose coefficient may be zero.
func (r *rows) take() term {
	t := term{exps: r.next()}
	for !r.isDone() && r.next() == t.exps {
		first := r.open[0]
		t.coef = t.coef.Add(first.factor.coef.Mul(r.list[first.taken].coef))
		first.taken++
		if first.taken == len(r.list) {
			heap.Pop(&r.open)
			r.waiting = append(r.waiting, first)
			continue
		}
		first.next = first.factor.exps + r.list[first.taken].exps
		heap.Fix(&r.open, 0)
	}
	return t
}

// product returns p * q, or false if it is not valid. It finds the terms one by one, so that it need not find all of them to see that they are too many.
func product(p, q []term) (terms []term, fits bool) {
	if len(p) > len(q) {
		p, q = q, p
	}
	if len(p) == 0 {
		return nil, true
	}
	r := newRows(p)
	r.extend(q...)
	for !r.isDone() {
		t := r.take()
		if t.coef.IsZero() {
			continue
		}
		if !t.fits() || len(terms) == api.MaxTerms {
			return nil, false
		}
		terms = append(terms, t)
	}
	return terms, true
}

// one returns the constant 1.
func one() []term {
	return []term{{coef: wide.Int(1)}}
}
