package audit

// within tells whether v is from low to high.
func within(v, low, high int) bool { return low <= v && v <= high }

// all tells whether something holds for each one of a list.
func all[T any](l []T, holds func(x T) bool) bool {
	for _, x := range l {
		if !holds(x) {
			return false
		}
	}
	return true
}

// neighbours tells whether something holds for each two of a list that stand side by side.
func neighbours[T any](l []T, hold func(x, next T) bool) bool {
	for i := 1; i < len(l); i++ {
		if !hold(l[i-1], l[i]) {
			return false
		}
	}
	return true
}
