package disk

import (
	"slices"

	"hansard/api"
)

// unlimited is the Left of a disk that does not stop; mostLeft is the greatest Left. mostPending is how many writes can wait for a sync.
const (
	unlimited   = -1
	mostLeft    = 65536
	mostPending = 4096
)

func valid(d api.Disk) bool {
	if len(d.Sectors) < 1 || len(d.Sectors) > api.MaxDisk || len(d.Pending) > mostPending {
		return false
	}
	for _, s := range d.Sectors {
		if len(s) != api.SectorSize {
			return false
		}
	}
	for _, w := range d.Pending {
		if !has(d, w.At) || len(w.Data) != api.SectorSize {
			return false
		}
	}
	return d.Left >= unlimited && d.Left <= mostLeft
}

// runs reports whether a disk is valid and has not stopped.
func runs(d api.Disk) bool { return valid(d) && !d.Stopped }

func has(d api.Disk, at int) bool { return at >= 0 && at < len(d.Sectors) }

// sector returns a new sector that begins with b, which is no longer than it.
func sector(b []byte) []byte {
	s := make([]byte, api.SectorSize)
	copy(s, b)
	return s
}

// current returns what was written last to a sector, whether it is synced or not.
func current(d api.Disk, at int) []byte {
	for _, w := range slices.Backward(d.Pending) {
		if w.At == at {
			return w.Data
		}
	}
	return d.Sectors[at]
}

// extended returns a new list, as what follows the elements of l in memory may belong to another disk.
func extended(l []api.Write, w api.Write) []api.Write {
	longer := make([]api.Write, len(l)+1)
	copy(longer, l)
	longer[len(l)] = w
	return longer
}

// performable returns how many pending writes a sync performs as a whole.
func performable(d api.Disk) int {
	if d.Left == unlimited {
		return len(d.Pending)
	}
	return min(d.Left, len(d.Pending))
}

// perform returns the sectors after some writes. Sectors are replaced, never changed in place, as other disks share them.
func perform(sectors [][]byte, writes []api.Write) [][]byte {
	after := slices.Clone(sectors)
	for _, w := range writes {
		after[w.At] = w.Data
	}
	return after
}

// torn returns what a sector is if the disk stops in the middle of writing it.
func torn(old, data []byte) []byte {
	s := sector(old)
	copy(s, data[:api.SectorSize/2])
	return s
}
