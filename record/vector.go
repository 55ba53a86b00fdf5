package record

import "chorus/api"

// Vector tells of each replica how many of its transactions are meant: the numbers 1 to that one. It stays 0 behind the group's last replica.
type Vector [api.MaxReplicas]int

// Covers tells whether a transaction is among those that the vector means.
func (v Vector) Covers(dot api.Dot) bool {
	return dot.Seq <= v[dot.Replica]
}

// Includes tells whether all that another vector means is meant.
func (v Vector) Includes(other Vector) bool {
	for replica, seq := range other {
		if seq > v[replica] {
			return false
		}
	}
	return true
}

// Join means all that either vector means.
func (v Vector) Join(other Vector) Vector {
	for replica, seq := range other {
		v[replica] = max(v[replica], seq)
	}
	return v
}

// Meet means what both vectors mean.
func (v Vector) Meet(other Vector) Vector {
	for replica, seq := range other {
		v[replica] = min(v[replica], seq)
	}
	return v
}

// Count tells how many transactions are meant.
func (v Vector) Count() int {
	count := 0
	for _, seq := range v {
		count += seq
	}
	return count
}
