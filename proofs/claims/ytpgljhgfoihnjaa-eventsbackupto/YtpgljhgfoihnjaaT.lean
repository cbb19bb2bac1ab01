/- The walks of newReader, of the deferred closures, of readWhole and of Read. -/
import Derived.Test.YtpgljhgfoihnjaaS
import Derived.Defers
import Derived.Recover
import Derived.Laws.Pointers
import Derived.Laws.EntriesVeiled
import Derived.Test.YtpgljhgfoihnjaaU
import Derived.Test.YtpgljhgfoihnjaaO
import Derived.Test.YtpgljhgfoihnjaaE
import Derived.Test.YtpgljhgfoihnjaaFa
import Derived.Test.YtpgljhgfoihnjaaH
import Derived.Test.YtpgljhgfoihnjaaN
import Derived.Test.YtpgljhgfoihnjaaOz
import Derived.Test.YtpgljhgfoihnjaaR
namespace Go.Proofs.Ytpgljhgfoihnjaa
open Go.RowKit Go.BigFrame
set_option maxRecDepth 100000
set_option linter.unusedSimpArgs false

set_option maxRecDepth 100000 in
set_option maxHeartbeats 2000000 in
theorem newReader_any (N : Nat) (w : World) (v : Value) (l : List UInt8) (hN : N ≤ w.heap.size) (hl : l.length ≤ 140737488355328) (h : InB N w v l) :
    Calls Try.prog 53 #[v] w fun e w' => ∃ rb rv, e = .returned (.pointer (some ⟨rb, 0, none⟩)) ∧ Rdr N w' rb rv l ∧ w.heap.size ≤ rb ∧ Below w.heap.size w w' := by
  have hmf : ∀ (fn : Fn) (first cap : Array Value) (w : World), (Instr.makeFunc fn first cap).run Try.prog w = .ok (.func fn first cap) w := fun _ _ _ _ => rfl
  obtain ⟨a, c, rfl, _⟩ := h.slice
  have HI := Box'.mk h
  clear h
  have RES : Box' (∀ n, n = l.length → Rdr N ((w.alloc (.cells #[.slice a n c, .func (.func 58) #[] #[.pointer (some ⟨w.heap.size + 1, 0, none⟩)]] 84)).alloc (.cells #[.pointer (some ⟨w.heap.size, 0, none⟩)] 81)) w.heap.size (w.heap.size + 1) l ∧ Below w.heap.size w ((w.alloc (.cells #[.slice a n c, .func (.func 58) #[] #[.pointer (some ⟨w.heap.size + 1, 0, none⟩)]] 84)).alloc (.cells #[.pointer (some ⟨w.heap.size, 0, none⟩)] 81))) := ⟨fun n hn => by
    subst hn
    have b1 : Below w.heap.size w (w.alloc (.cells #[.slice a l.length c, .func (.func 58) #[] #[.pointer (some ⟨w.heap.size + 1, 0, none⟩)]] 84)) := (Below.refl _ _).alloc (Nat.le_refl _) _
    have b2 := b1.alloc (o := .cells #[.pointer (some ⟨w.heap.size, 0, none⟩)] 81) b1.size
    have hz : (w.alloc (.cells #[.slice a l.length c, .func (.func 58) #[] #[.pointer (some ⟨w.heap.size + 1, 0, none⟩)]] 84)).heap.size = w.heap.size + 1 := by simp
    refine ⟨⟨⟨_, (Row.new _ _ _).alloc _, HI.out.below b2 hN⟩, ?_, hN, hl⟩, b2⟩
    exact Row.made _ 81 _ _ _ rfl hz.symm⟩
  clear HI
  have R0 := Box'.mk (RES.out _ rfl)
  clear RES
  generalize l.length = n at *
  go_enter Try.func53, Try.ntmps53
  go_wp2_with fail
  go_ret
  exact ⟨_, _, rfl, R0.out.1, Nat.le_refl _, R0.out.2⟩

end Go.Proofs.Ytpgljhgfoihnjaa
