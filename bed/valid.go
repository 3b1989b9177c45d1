package bed

import "acrospire/api"

const maxDen = 1 << 20

func isBed(cells []int) bool {
	return len(cells) >= 1 && len(cells) <= api.MaxCells && areWithin(cells, 0, api.MaxMoist)
}

func areWithin(cells []int, low, high int) bool {
	for _, moisture := range cells {
		if moisture < low || moisture > high {
			return false
		}
	}
	return true
}

func isGrain(g api.Grain) bool {
	if g.Den < 1 || g.Den > maxDen || g.Num < 0 || g.Num > g.Den || g.Loss < 0 {
		return false
	}
	// The sum of 2 times Num and any Loss could be outside the range of int.
	return g.Loss <= g.Den-2*g.Num
}

func isMoisture(amount int) bool {
	return amount >= 0 && amount <= api.MaxMoist
}

func isRun(ticks int) bool {
	return ticks >= 0 && ticks <= maxRun
}
