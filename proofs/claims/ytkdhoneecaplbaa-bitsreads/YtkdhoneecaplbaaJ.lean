/- The walk of what the document fixes. -/
import Derived.Test.YtkdhoneecaplbaaI
namespace Go.Proofs.Ytkdhoneecaplbaa
open Go.RowKit Go.BigFrame

def Gf.lA : List (Nat × Int) := [(5, 3), (1, 2), (255, 8)]
theorem Gf.lA_E : Gf.cntE Gf.lA = 0 := by decide +kernel
theorem Gf.lA_W : Gf.wid Gf.lA = 2 := by decide +kernel
theorem Gf.lA_B : Gf.byt 2 (Gf.val Gf.lA) = [237, 31] := by decide +kernel
theorem Gf.lA_R : Gf.rdE 2 5 8 = 0 ∧ Gf.rdV [237, 31] 5 8 = 255 := by decide +kernel

/-- The slice of a row of one's own has its bytes. -/
theorem Row.bts {w : World} {g : Nat} {l : List UInt8} {n : Nat} (h : Row w g 5 (ag l)) (hn : l.length = n) : Bts (· < w.heap.size) w (.slice (some ⟨g, 0, none⟩) n n) l :=
  ⟨_, _, by rw [hn], by omega, .inr ⟨g, 0, rfl, h.lt, fun j u hu => by rw [Nat.zero_add, h.cell]; simpa [ag] using hu⟩⟩

set_option maxHeartbeats 1000000 in
theorem anchored_any (w : World) : Calls Try.prog 11 #[] w fun e w' => e = .returned (.bool true) ∧ Below w.heap.size w w' := by
  have hp : Prs (w.alloc (.cells #[.int .u64 5, .int .i64 3, .int .u64 1, .int .i64 2, .int .u64 255, .int .i64 8] 39)).heap.size (w.alloc (.cells #[.int .u64 5, .int .i64 3, .int .u64 1, .int .i64 2, .int .u64 255, .int .i64 8] 39)) (.slice (some ⟨w.heap.size, 0, none⟩) 3 3) Gf.lA := by
    have r := Row.new w 39 #[.int .u64 5, .int .i64 3, .int .u64 1, .int .i64 2, .int .u64 255, .int .i64 8]
    refine ⟨_, _, rfl, Nat.le_refl _, by decide, .inr ⟨w.heap.size, 0, rfl, by simp, fun k hk => ?_⟩⟩
    rw [r.cell, r.cell]
    have : k = 0 ∨ k = 1 ∨ k = 2 := by have : k < 3 := hk; omega
    rcases this with rfl | rfl | rfl <;> exact ⟨rfl, rfl⟩
  have hw := write_any _ _ (show Gf.lA.length ≤ 140737488355328 by show 3 ≤ _; omega) _ hp
  rw [Gf.lA_E] at hw
  have bl0 : Below w.heap.size w (w.alloc (.cells #[.int .u64 5, .int .i64 3, .int .u64 1, .int .i64 2, .int .u64 255, .int .i64 8] 39)) := (Below.refl _ _).alloc (Nat.le_refl _) _
  clear hp
  go_enter Try.func11, Try.ntmps11
  go_wp2_with fail
  refine hw.mono ?_
  rintro e w1 ⟨u, rfl, hwr, hb1⟩
  have bl1 : Below w.heap.size w w1 := bl0.trans (hb1.mono (by simp))
  rcases hwr with ⟨_, g, rfl, hg, rw⟩ | ⟨h, _⟩
  · rw [Gf.lA_W]
    rw [Gf.lA_W, Gf.lA_B] at rw
    have b1 := rw.bts (n := 2) rfl
    have hrd := read_any _ _ _ 5 8 (by show 2 ≤ _; omega) w1 b1 (by decide)
    rw [show ([237, 31] : List UInt8).length = 2 from rfl, Gf.lA_R.1, Gf.lA_R.2] at hrd
    have b2 : Bts (· < w1.heap.size) (w1.alloc (.cells #[.int .u8 237, .int .u8 31] 5)) (.slice (some ⟨g, 0, none⟩) 2 2) [237, 31] := b1.below ((Below.refl _ _).alloc (Nat.le_refl _) _) (fun _ h => h)
    have b3 := (Row.new w1 5 (ag [237, 31])).bts (n := 2) rfl
    have hs := refSame_any _ _ _ _ _ _ _ b2 b3
    rw [decide_eq_true rfl] at hs
    have bl2 := bl1.alloc (o := .cells #[.int .u8 237, .int .u8 31] 5) bl1.size
    clear b1 b2 b3 rw hw bl0 hb1 hg
    go_wp2_with (first | (go_at_call 12; refine hrd.mono ?_; rintro e w2 ⟨rfl, rfl⟩) | (go_at_call 10; refine hs.mono ?_; rintro e w3 ⟨rfl, rfl⟩) | fail)
    go_ret
    exact ⟨rfl, bl2⟩
  · exact absurd Gf.lA_E h
end Go.Proofs.Ytkdhoneecaplbaa
