/- The reference's next. -/
import Derived.Test.YtfnlnbdlahckeaaDoorRe
namespace Go.Proofs.YtfnlnbdlahckeaaDoor
open Go.RowKit Go.BigFrame
set_option linter.unusedVariables false
set_option linter.unusedSimpArgs false

/-- begins, as it is called by next. -/
def BgOk : Prop := ∀ (S : Nat → Prop) (w : World) (v : Value) (b : List UInt8), Bts S w v b → b ≠ [] →
    Calls Tryd.prog 33 #[v] w fun e w' => e = .returned (.tuple #[.int .i32 (bg b).1, .int .i64 ((bg b).2 : Int)]) ∧ Below w.heap.size w w'
theorem Bts.take {S : Nat → Prop} {w : World} {a : Option Addr} {c : Nat} {l : List UInt8} (h : Bts S w (.slice a l.length c) l) (k : Nat) (hk : k ≤ l.length) : Bts S w (.slice a k c) (l.take k) := by
  obtain ⟨a', c', h1, h2, h3⟩ := h
  injection h1 with e1 e2 e3
  subst e1 e3
  refine ⟨_, _, by rw [List.length_take, Nat.min_eq_left hk], by rw [List.length_take]; omega, ?_⟩
  rcases h3 with rfl | ⟨b, o, h4, h5, h6⟩
  · exact .inl (by simp)
  · exact .inr ⟨b, o, h4, h5, range_take h6 k⟩
set_option maxRecDepth 100000 in
set_option maxHeartbeats 4000000 in
theorem next_any (HBG : BgOk) (S : Nat → Prop) (w : World) (v : Value) (b : List UInt8) (hb : Bts S w v b) (hS : ∀ b, S b → b < w.heap.size) (hl : b.length ≤ 140737488355328) :
    Calls Tryd.prog 25 #[v] w fun e w' => e = .returned (.tuple #[.int .i32 (nxF b).1, .int .i64 ((nxF b).2.1 : Int), .bool (nxF b).2.2]) ∧ Below w.heap.size w w' := by
  have HB := Box'.mk hb
  have HBG' := Box'.mk HBG
  obtain ⟨a1, c1, rfl, hc, -⟩ := hb
  have HNX : Box' (nxF b = nx b 0 (b.length - 0)) := ⟨rfl⟩
  generalize nxF b = R at *
  generalize hn : b.length = n at *
  have HN := Box'.mk hn
  clear hn HBG
  go_enter Tryd.func25, Tryd.ntmps25
  go_wp2_with fail
  go_loopw [5] (fun nv wr => ∃ (k : Nat), nv = .int .i64 (k : Int) ∧ k ≤ n ∧ Box' (R = nx b k (n - k)) ∧ Box' (Below w.heap.size w wr)) (fun nv _ => n - (intOf nv).toNat)
  case atStart => exact ⟨0, rfl, by omega, HNX, ⟨Below.refl _ _⟩⟩
  case round =>
    clear HNX
    obtain ⟨k, rfl, hk, HNX, HBl⟩ := hrel
    by_cases hlt : k < n
    · have hkb : 0 < b.length := by rw [HN.out]; omega
      obtain ⟨bb, ob, cb, eb, sb, -⟩ := HB.out.cells hkb
      rw [HN.out] at eb
      injection eb with e1 _ e2
      subst e1 e2
      have hbt : Bts S wr (.slice (some ⟨bb, ob, none⟩) (k + 1) c1) (b.take (k + 1)) := by
        have q : Bts S w (.slice (some ⟨bb, ob, none⟩) b.length c1) b := by rw [HN.out]; exact HB.out
        exact (q.take (k + 1) (by rw [HN.out]; omega)).below HBl.out hS
      have BC := Box'.mk (HBG'.out S wr _ _ hbt (by intro h; have := congrArg List.length h; rw [List.length_take, HN.out] at this; simp at this; omega))
      have HR : Box' (R = if (bg (b.take (k + 1))).2 = 0 then (65533, max k 1, true) else if (bg (b.take (k + 1))).2 = k + 1 then ((bg (b.take (k + 1))).1, k + 1, true) else nx b (k + 1) (n - (k + 1))) := ⟨by
        rw [HNX.out, show n - k = (n - (k + 1)) + 1 by omega, nx]⟩
      clear HNX hbt sb hkb
      have hkc : k + 1 ≤ c1 := by omega
      generalize bg (b.take (k + 1)) = q at *
      obtain ⟨q1, q2⟩ := q
      simp only at HR BC
      by_cases h0 : q2 = 0
      · have e := HR.out
        rw [if_pos h0] at e
        subst h0
        have HE := Box'.mk e
        clear HR e
        go_wp2_with fail
        refine BC.out.mono ?_
        rintro e w2 ⟨rfl, b2⟩
        have B2 := HBl.out.trans (b2.mono HBl.out.size)
        clear BC HBl b2
        by_cases hk1 : 1 ≤ k
        · rw [Nat.max_eq_left hk1] at HE
          go_wp2_with fail
          go_ret3
          exact ⟨by rw [HE.out]; first | rfl | go_num, B2⟩
        · obtain rfl : k = 0 := by omega
          rw [Nat.max_eq_right (by omega)] at HE
          go_wp2_with fail
          go_ret3
          exact ⟨by rw [HE.out]; first | rfl | go_num, B2⟩
      · by_cases h1 : q2 = k + 1
        · have e := HR.out
          rw [if_neg h0, if_pos h1] at e
          subst h1
          have HE := Box'.mk e
          clear HR e
          go_wp2_with fail
          refine BC.out.mono ?_
          rintro e w2 ⟨rfl, b2⟩
          have B2 := HBl.out.trans (b2.mono HBl.out.size)
          clear BC HBl b2
          go_wp2_with fail
          go_ret3
          exact ⟨by rw [HE.out]; rfl, B2⟩
        · have e := HR.out
          rw [if_neg h0, if_neg h1] at e
          have HE := Box'.mk e
          clear HR e
          have i0 : ¬ ((q2 : Int) = 0) := by omega
          have i1 : ¬ ((q2 : Int) = (k : Int) + 1) := by omega
          go_wp2_with fail
          refine BC.out.mono ?_
          rintro e w2 ⟨rfl, b2⟩
          have B2 := HBl.out.trans (b2.mono HBl.out.size)
          clear BC HBl b2
          go_wp2_with fail
          exact ⟨⟨k + 1, by go_num, by omega, HE, ⟨B2⟩⟩, by simp [intOf]; omega⟩
    · obtain rfl : k = n := by omega
      have e := HNX.out
      rw [Nat.sub_self, nx] at e
      have HE := Box'.mk e
      have B2 := HBl.out
      clear HNX HBl HB HBG'
      by_cases hk1 : 1 ≤ k
      · rw [Nat.max_eq_left hk1] at HE
        clear e
        go_wp2_with fail
        go_ret3
        exact ⟨by rw [HE.out]; first | rfl | go_num, B2⟩
      · obtain rfl : k = 0 := by omega
        rw [Nat.max_eq_right (by omega)] at HE
        clear e
        go_wp2_with fail
        go_ret3
        exact ⟨by rw [HE.out]; first | rfl | go_num, B2⟩
end Go.Proofs.YtfnlnbdlahckeaaDoor
