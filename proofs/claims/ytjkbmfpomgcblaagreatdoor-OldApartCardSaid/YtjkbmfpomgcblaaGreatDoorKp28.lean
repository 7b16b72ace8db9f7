import Derived.Test.YtjkbmfpomgcblaaGreatDoorKp26
namespace Go.Proofs.YtjkbmfpomgcblaaGreatDoor
open Go.RowKit
theorem grown_b {w w':World} (h:Below w.heap.size w w'):w.grownBy w' none:=⟨h.os,h.tape,h.output,h.size,fun k hk _=>h.block k hk⟩
end Go.Proofs.YtjkbmfpomgcblaaGreatDoor
