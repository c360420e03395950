// Package ask has the question that flows and facts ask of many things at once.
package ask

// Every asks whether something is so of each element; of no element it is.
func Every[E any](l []E, so func(E) bool) bool {
	for _, e := range l {
		if !so(e) {
			return false
		}
	}
	return true
}
