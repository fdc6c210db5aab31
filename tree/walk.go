package tree

import "periscope/api"

// step is a place that one comes to, and how far below the first one.
type step struct {
	place int
	depth int
}

// walk is where one came so far, and whose children are still to do, the last one first.
type walk struct {
	spans []api.Span
	left  map[uint64][]int
	came  []bool
	all   []step
	todo  []step
}

// steps is where one comes from places, those first. A place that isn't there leads nowhere.
func steps(l []api.Span, from ...int) []step {
	w := walk{spans: l, left: children(l), came: make([]bool, len(l))}
	for _, at := range from {
		if isPlace(l, at) {
			w.come(step{place: at})
		}
	}
	w.run()
	return w.all
}

// children is the places of the children of each number, in their order.
func children(l []api.Span) map[uint64][]int {
	of := map[uint64][]int{}
	for _, at := range bySeq(l, places(l, func(s api.Span) bool { return s.Up != nobody })) {
		up := l[at].Up
		of[up] = append(of[up], at)
	}
	return of
}

// run goes on until there is nothing to do. Spans may be as deep below one another as they like, so that a call for each depth would have no bound.
func (w *walk) run() {
next:
	if len(w.todo) == 0 {
		return
	}
	last := w.todo[len(w.todo)-1]
	if kid, ok := w.take(w.spans[last.place].ID); ok {
		w.come(step{place: kid, depth: last.depth + 1})
	} else {
		w.todo = w.todo[:len(w.todo)-1]
	}
	goto next
}

// take is the next child of a number. Spans of one number have the same children: where one of them stopped, another one goes on, as those ahead stand in the walk already.
func (w *walk) take(id uint64) (int, bool) {
	kids := w.left[id]
	if len(kids) == 0 {
		return 0, false
	}
	w.left[id] = kids[1:]
	return kids[0], true
}

// come puts a place into the walk, unless it stands there.
func (w *walk) come(s step) {
	if w.came[s.place] {
		return
	}
	w.came[s.place] = true
	w.all = append(w.all, s)
	w.todo = append(w.todo, s)
}
