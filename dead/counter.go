package dead

// counter says how often numbers occur; those that do not occur have no key.
type counter map[int]int

func (c counter) add(list []int) {
	for _, n := range list {
		c[n]++
	}
}

func (c counter) remove(list []int) {
	for _, n := range list {
		if c[n]--; c[n] == 0 {
			delete(c, n)
		}
	}
}

func (c counter) has(n int) bool {
	_, is := c[n]
	return is
}
