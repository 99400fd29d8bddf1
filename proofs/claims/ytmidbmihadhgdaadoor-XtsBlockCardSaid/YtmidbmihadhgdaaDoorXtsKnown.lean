/- A sector of noughts, sealed with keys of noughts, is another one: reckoned at its first block. Own work. -/
import Derived.Test.YtmidbmihadhgdaaDoorXtsMath
namespace Go.Proofs.YtmidbmihadhgdaaDoor
open AM FM
namespace XM
def zk : Nat → List Nat := rk (sched (List.replicate 32 0))
theorem zk_bytes : ∀ n, Bytes 16 (zk n) := fun n => rk_bytes (sched_bytes (bytes_zero 32).2).2 n
theorem first_apart : (sb1 zk (tweak zk 0 0) (List.replicate 16 0) == List.replicate 16 0) = false := by decide +kernel
theorem noughts_apart : xseal zk zk 0 (List.replicate 512 0) ≠ List.replicate 512 0 := fun h => by
  have e := congrArg (blk · 0) h
  have hz : blk (List.replicate 512 0) 0 = List.replicate 16 0 := by decide +kernel
  simp only [hz] at e
  rw [xseal_blk zk zk zk_bytes zk_bytes 0 (by decide) _ List.length_replicate 0 (by omega), hz] at e
  have k := first_apart
  rw [e] at k
  simp at k
end XM
end Go.Proofs.YtmidbmihadhgdaaDoor
