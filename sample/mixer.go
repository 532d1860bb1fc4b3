// Package sample is the numbers, commands and events that tests are made of. No other package of the program calls it.
package sample

// Mixer makes numbers that look like chance, and are the same in every run.
type Mixer uint64

// Next is the next number.
func (x *Mixer) Next() uint64 {
	*x += 0x9e3779b97f4a7c15
	n := uint64(*x)
	n = (n ^ n>>30) * 0xbf58476d1ce4e5b9
	n = (n ^ n>>27) * 0x94d049bb133111eb
	return n ^ n>>31
}

// Below is the next number from 0 to n - 1; n must be above 0.
func (x *Mixer) Below(n int) int { return int(x.Next() % uint64(n)) }

// Pick is one of those that are handed in; there must be one.
func Pick[T any](x *Mixer, l ...T) T { return l[x.Below(len(l))] }
