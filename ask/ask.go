// Package ask has the questions that layers ask of many things at once.
package ask

// Every asks whether something is so of each element; of no element it is.
func Every[E any](l []E, so func(E) bool) bool {
	for _, e := range l {
		if !so(e) {
			return false
		}
	}
	return true
}

// Each lists what is so of each number below n.
func Each(n int, so func(i int) bool) []bool {
	l := make([]bool, n)
	for i := range l {
		l[i] = so(i)
	}
	return l
}
