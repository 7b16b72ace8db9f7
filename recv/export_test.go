package recv

import "packtrain/disk"

// Disk is a receiver's own one, which its face doesn't show: the tests look at sectors, and spoil them.
func (r *Receiver) Disk() *disk.Disk { return r.disk }
