/- Marks in every place, and behind the end; the walk of WireFresh. -/
import Derived.Test.YtpgljhgfoihnjaaRv
import Derived.Test.YtpgljhgfoihnjaaU
import Derived.Test.YtpgljhgfoihnjaaO
import Derived.Test.YtpgljhgfoihnjaaE
import Derived.Test.YtpgljhgfoihnjaaFa
import Derived.Test.YtpgljhgfoihnjaaH
import Derived.Test.YtpgljhgfoihnjaaN
import Derived.Test.YtpgljhgfoihnjaaOz
import Derived.Test.YtpgljhgfoihnjaaR
import Derived.Test.YtpgljhgfoihnjaaS
import Derived.Test.YtpgljhgfoihnjaaT
import Derived.Test.YtpgljhgfoihnjaaY
import Derived.Test.YtpgljhgfoihnjaaEd
import Derived.Test.YtpgljhgfoihnjaaEa
import Derived.Test.YtpgljhgfoihnjaaEb
import Derived.Test.YtpgljhgfoihnjaaEc
import Derived.Test.YtpgljhgfoihnjaaRf
import Derived.Test.YtpgljhgfoihnjaaRk1
import Derived.Test.YtpgljhgfoihnjaaRk2
import Derived.Test.YtpgljhgfoihnjaaRk3
import Derived.Test.YtpgljhgfoihnjaaRk4
import Derived.Test.YtpgljhgfoihnjaaRko
namespace Go.Proofs.Ytpgljhgfoihnjaa
open Go.RowKit Go.BigFrame
set_option maxRecDepth 100000
set_option linter.unusedSimpArgs false

theorem results30 (T : Array Value) (w : World) : (results Try.f21 T).run Try.prog w = .ok (.tuple #[]) w := by
  unfold results
  simp [go_sem]
theorem own_same {w w' : World} {g n cap : Nat} {xs : List Value} (h : w.ownsRow 0 5 1 (.slice (some ⟨g, 0, none⟩) n cap) n xs) (hs : w'.heap[g]? = w.heap[g]?) : w'.ownsRow 0 5 1 (.slice (some ⟨g, 0, none⟩) n cap) n xs := by
  refine ⟨h.1, ?_⟩
  rcases h.2 with ⟨e, _⟩ | ⟨g1, c1, cur, e1, e2, e3, e4⟩
  · cases e
  · have e1' := e1
    injection e1 with q1; injection q1 with q1; injection q1 with q1
    subst q1
    exact .inr ⟨g, c1, cur, e1', e2, by rw [hs]; exact e3, e4⟩
theorem own_cell {w : World} {g n cap : Nat} {xs : List Value} (h : w.ownsRow 0 5 1 (.slice (some ⟨g, 0, none⟩) n cap) n xs) (k : Nat) (hk : k < n) : ∃ u, w.cell? ⟨g, k, none⟩ = some u := by
  have hl := h.1
  have hx : xs[k]? = some (xs[k]'(by omega)) := List.getElem?_eq_getElem (by omega)
  have := World.ownsRow.cells h (g := g) rfl k _ hx
  rw [Addr.add_mid, Nat.zero_add] at this
  exact ⟨_, this⟩
theorem grown_trans {w a b : World} {g g' : Nat} (h1 : w.grownBy a (some g)) (h2 : a.grownBy b (some g')) (hg : g' = g ∨ w.heap.size ≤ g') : w.grownBy b (some g) :=
  ⟨h2.os.trans h1.os, h2.tape.trans h1.tape, h2.output.trans h1.output, Nat.le_trans h1.size h2.size, fun k hk hn => (h2.block k (Nat.lt_of_lt_of_le hk h1.size) (by
    intro e
    injection e with e
    rcases hg with rfl | hg
    · exact hn (by rw [e])
    · omega)).trans (h1.block k hk hn)⟩

end Go.Proofs.Ytpgljhgfoihnjaa
