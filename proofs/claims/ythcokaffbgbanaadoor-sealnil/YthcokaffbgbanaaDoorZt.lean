/- The walk of SealNil. -/
import Derived.Test.YthcokaffbgbanaaDoorXo
namespace Go.Proofs.YthcokaffbgbanaaDoor
open Go.RowKit Go.BigFrame

set_option maxRecDepth 100000 in
set_option maxHeartbeats 4000000 in
theorem sealNil_any (vb : Value) (w : World) (ht : Tab w) : Calls Tryd.prog 5 #[vb] w fun r w' => r = .returned (.bool true) ∧ Below w.heap.size w w' := by
  have hlt := ht.lt
  have HN := Box'.mk (fun (w : World) => (next_nil 1 2 vb w : Calls Tryd.prog 21 #[.pointer none, .int .u16 1, .int .u16 2, vb] w fun r w' => r = .returned (.tuple #[.slice none 0 0, .int .i64 1]) ∧ w' = w))
  have hT := fun (w : World) => take_nil vb w
  unfold dg0 at hT
  have HT := Box'.mk hT
  have HC := Box'.mk counts_nil
  have HU := Box'.mk used_nil
  have HA := Box'.mk (fun (w1 : World) (hb : Below w.heap.size w w1) => anch_any w1 (ht.below hb hlt))
  clear hT
  go_enter Tryd.func5, Tryd.ntmps5
  go_wp2_with (first | (go_at_call 21; refine (HN.out _).mono ?_; rintro e1 w1 ⟨rfl, rfl⟩) | fail)
  refine (HT.out _).mono ?_
  rintro r w2 ⟨rfl, b2⟩
  have b3 : Below w1.heap.size w1 (w2.alloc (.cells #[.int .u64 0, .int .u16 0, .int .u16 0, .slice none 0 0] 28)) := b2.alloc b2.size _
  have A3 := Box'.mk (HA.out _ b3)
  clear HN HT HA b2
  go_wp2_with (first | (go_at_call 25; refine (HC.out _).mono ?_; rintro e1 w4 ⟨rfl, rfl⟩) | (go_at_call 26; refine (HU.out _).mono ?_; rintro e1 w5 ⟨rfl, rfl⟩) | (go_at_call 10; refine A3.out.mono ?_; rintro e1 w6 ⟨rfl, b6⟩) | fail)
  go_ret
  exact ⟨rfl, b3.trans (b6.mono b3.size)⟩
end Go.Proofs.YthcokaffbgbanaaDoor
