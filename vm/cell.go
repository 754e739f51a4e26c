package vm

// cell is a register or a slot: one that is not set has nothing yet, which is not the same as a 0.
type cell struct {
	number uint64
	set    bool
}

func filled(number uint64) cell {
	return cell{number, true}
}

// areSet asks whether all of these have something.
func areSet(l ...cell) bool {
	for _, c := range l {
		if !c.set {
			return false
		}
	}
	return true
}

// numbers tells what these have.
func numbers(l ...cell) []uint64 {
	var out []uint64
	for _, c := range l {
		out = append(out, c.number)
	}
	return out
}
