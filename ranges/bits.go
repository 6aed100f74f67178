package ranges

import (
	"math/bits"

	"cupel/api"
)

// conjoined returns a range around what & makes of two ranges: it is neither below 0 nor above an operand that is from 0 on.
func conjoined(kind int, a, b api.Range) api.Range {
	switch {
	case a.Low >= 0 && b.Low >= 0:
		return api.Range{Low: 0, High: min(a.High, b.High)}
	case a.Low >= 0:
		return api.Range{Low: 0, High: a.High}
	case b.Low >= 0:
		return api.Range{Low: 0, High: b.High}
	}
	all, _ := Full(kind)
	return all
}

// filled returns a range around what | or ^ makes of two ranges: if both are from 0 on, from low to the bits that the values may have, all set.
func filled(kind int, low int64, a, b api.Range) api.Range {
	if a.Low < 0 || b.Low < 0 {
		all, _ := Full(kind)
		return all
	}
	return api.Range{Low: low, High: 1<<bits.Len64(uint64(max(a.High, b.High))) - 1}
}
