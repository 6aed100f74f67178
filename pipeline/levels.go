package pipeline

import "cupel/api"

// levels returns the passes of the levels, in order.
func levels() [4][]int {
	all := []int{
		api.PsInto, api.PsFold, api.PsDead, api.PsOut, api.PsTidy,
		api.PsInto, api.PsFold, api.PsCopies, api.PsPeep, api.PsFold, api.PsCopies, api.PsDead, api.PsOut, api.PsTidy,
		api.PsInline, api.PsInto, api.PsFold, api.PsCopies, api.PsPeep, api.PsHoist, api.PsFold, api.PsCopies, api.PsPeep, api.PsDead, api.PsOut, api.PsTidy,
	}
	return [4][]int{all[:0:0], all[0:5:5], all[5:14:14], all[14:26:26]}
}

func isLevel(level int) bool { return level >= 0 && level < len(levels()) }
