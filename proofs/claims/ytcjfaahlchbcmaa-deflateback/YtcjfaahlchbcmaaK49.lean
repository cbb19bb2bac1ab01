/- What lies behind a stream, and a greater bound, change nothing: plain mathematics. What lies behind a stream, and a greater bound, change nothing: blocks and the whole. -/
import Derived.Test.YtcjfaahlchbcmaaK48
import Derived.Test.YtcjfaahlchbcmaaK05
import Derived.Test.YtcjfaahlchbcmaaK01
namespace Go.Proofs.Ytcjfaahlchbcmaa
open Gt
theorem nbr_app (b c : List UInt8) (p size : Nat) (h : p + size ≤ 8 * b.length) : nbr (b ++ c) p size = nbr b p size := by
  unfold nbr
  apply Nat.eq_of_testBit_eq
  intro i
  rw [Nat.testBit_mod_two_pow, Nat.testBit_mod_two_pow, Nat.testBit_div_two_pow, Nat.testBit_div_two_pow, Gf.num_bit, Gf.num_bit]
  by_cases hi : i < size
  · have hlt : (i + p) / 8 < b.length := by omega
    have e : (b ++ c).getD ((i + p) / 8) 0 = b.getD ((i + p) / 8) 0 := by
      simp [List.getD_eq_getElem?_getD, List.getElem?_append_left hlt]
    rw [e]
  · simp [hi]
theorem bit_app (b c : List UInt8) (p n v : Nat) (h : Gf.bitAt b p n = some v) : Gf.bitAt (b ++ c) p n = some v ∧ p + n + 1 ≤ 8 * b.length := by
  unfold Gf.bitAt at *
  split at h
  · rename_i hl
    refine ⟨?_, hl⟩
    rw [if_pos (by rw [List.length_append]; omega), ← h]
    have := nbr_app b c (p + n) 1 (by omega)
    unfold nbr at this
    rw [Nat.pow_one] at this
    rw [this]
  · cases h
theorem ext_sym (l : List Int) (b c : List UInt8) (p : Nat) : ∀ f n cc, p + n ≤ 8 * b.length → (Gf.symF l (Gf.bitAt b p) f n cc).2.2 = 0 → Gf.symF l (Gf.bitAt (b ++ c) p) f n cc = Gf.symF l (Gf.bitAt b p) f n cc ∧ p + (Gf.symF l (Gf.bitAt b p) f n cc).2.1 ≤ 8 * b.length := by
  intro f
  induction f with
  | zero => intro n cc _ h; simp [Gf.symF] at h
  | succ f ih =>
    intro n cc hn h
    rw [Gf.symF] at h
    rw [Gf.symF, Gf.symF]
    cases hh : Gf.hit l n cc with
    | some i => exact ⟨rfl, hn⟩
    | none =>
      simp only [hh] at h ⊢
      by_cases hl : Gf.live l n cc l.length = true
      · simp only [hl, if_true] at h ⊢
        cases hb : Gf.bitAt b p n with
        | none => simp [hb] at h
        | some v =>
          obtain ⟨h1, h2⟩ := bit_app b c p n v hb
          simp only [hb, h1] at h ⊢
          exact ih (n + 1) (2 * cc + v) (by omega) h
      · simp [hl] at h
theorem ext_rd {l : List Int} {b c : List UInt8} {p s q : Nat} (hp : p ≤ 8 * b.length) (h : rdF l b p = .ok (s, q)) : rdF l (b ++ c) p = .ok (s, q) ∧ q ≤ 8 * b.length := by
  unfold rdF at h ⊢
  split at h
  · rename_i h0
    obtain ⟨h1, h2⟩ := ext_sym l b c p 17 0 0 (by omega) h0
    rw [h1, if_pos h0]
    cases h
    exact ⟨rfl, h2⟩
  · cases h
open Gt
open Go.RowKit Go.BigFrame Gt
structure Rs (K : Nat → Prop) (N : Nat) (w : World) (sb : Nat) (vb : Value) (b : List UInt8) (p : Nat) (out : List UInt8) (most : Nat) (fx : Value) : Prop where
  row : ∃ vo, Row w sb 61 #[vb, .int .i64 (p : Int), vo, .int .i64 (most : Int), fx] ∧ OwnB N w vo out
  kt : ∀ k, K k → k < N ∨ ∀ cur, ¬ Row w k 5 cur
  bts : Bts K w vb b
  sbK : ¬ K sb
  kl : ∀ k, K k → k < w.heap.size
  bl : b.length ≤ 140737488355328
  pl : p ≤ 8 * b.length
  ol : out.length ≤ most
  ml : most ≤ 65536
  nl : N ≤ w.heap.size
theorem Rs.own {K : Nat → Prop} {N : Nat} {w : World} {vo : Value} {out : List UInt8} (kt : ∀ k, K k → k < N ∨ ∀ cur, ¬ Row w k 5 cur) (ho : OwnB N w vo out) : ∀ g, vo.ownBlock = some g → ¬ K g := by
  intro g hg hK
  obtain ⟨h1, cur, r⟩ := ho.lt g hg
  rcases kt g hK with h2 | h2
  · omega
  · exact h2 cur r
theorem Rs.drewN {K : Nat → Prop} {N : Nat} {w : World} {sb : Nat} {vb : Value} {b : List UInt8} {p : Nat} {out : List UInt8} {most : Nat} {fx : Value} (h : Rs K N w sb vb b p out most fx) (n : Nat) : Rs K N (w.drewN n) sb vb b p out most fx :=
  ⟨h.row, h.kt, h.bts, h.sbK, h.kl, h.bl, h.pl, h.ol, h.ml, h.nl⟩
theorem Rs.ne {N : Nat} {w : World} {vo : Value} {out : List UInt8} {sb : Nat} {cur : Array Value} (ho : OwnB N w vo out) (hr : Row w sb 61 cur) : ∀ g, vo.ownBlock = some g → g ≠ sb := by
  rintro g hg rfl
  obtain ⟨-, cur, r⟩ := ho.lt g hg
  unfold Row at r hr
  rw [r] at hr
  simp at hr
theorem Rs.at_ {K : Nat → Prop} {N : Nat} {w : World} {sb : Nat} {vb : Value} {b : List UInt8} {p : Nat} {out : List UInt8} {most : Nat} {fx : Value} (h : Rs K N w sb vb b p out most fx) (q : Nat) (hq : q ≤ 8 * b.length) : Rs K N (w.setCell ⟨sb, 1, none⟩ (.int .i64 (q : Int))) sb vb b q out most fx := by
  obtain ⟨vo, hr, ho⟩ := h.row
  have hk : ∀ k, K k → (w.setCell ⟨sb, 1, none⟩ (.int .i64 (q : Int))).heap[k]? = w.heap[k]? := fun k hk => Below.heap_setCell _ _ _ _ (fun e => h.sbK (by have e : k = sb := e; rw [← e]; exact hk))
  exact ⟨⟨vo, by simpa using hr.setCell 1 (.int .i64 (q : Int)), ho.same fun g hg => Below.heap_setCell _ _ _ _ (Rs.ne ho hr g hg)⟩, kt_keep h.kt hk, h.bts.keep fun g hg => ⟨hg, hk g hg⟩, h.sbK, fun k hk => by simpa [World.setCell] using h.kl k hk, h.bl, hq, h.ol, h.ml, by simpa [World.setCell] using h.nl⟩
theorem Rs.grow {K : Nat → Prop} {N : Nat} {w : World} {sb : Nat} {vb : Value} {b : List UInt8} {p : Nat} {out : List UInt8} {most : Nat} {fx vo : Value} (h : Rs K N w sb vb b p out most fx) (hr : Row w sb 61 #[vb, .int .i64 (p : Int), vo, .int .i64 (most : Int), fx]) (ho : OwnB N w vo out) (nq : Nat) (o : Obj) (x : UInt8) (hx : out.length < most) {v' : Value} {w3 : World} (o3 : OwnB N w3 v' (out ++ [x])) (g3 : ((w.drewN nq).alloc o).grownBy w3 vo.ownBlock) :
    w3.cell? ⟨sb, 2, none⟩ = some vo ∧ w3.frozen? ⟨sb, 2, none⟩ = false ∧ Kp K w (w3.setCell ⟨sb, 2, none⟩ v') ∧ Rs K N (w3.setCell ⟨sb, 2, none⟩ v') sb vb b p (out ++ [x]) most fx := by
  have hz : ((w.drewN nq).alloc o).heap.size = w.heap.size + 1 := by simp
  have hne := Rs.ne ho hr
  have blk : ∀ k, k < w.heap.size → some k ≠ vo.ownBlock → w3.heap[k]? = w.heap[k]? := fun k hk hn => (g3.block k (by omega) hn).trans (Below.heap_alloc _ _ _ hk)
  have r3 : Row w3 sb 61 #[vb, .int .i64 (p : Int), vo, .int .i64 (most : Int), fx] := hr.same (blk sb hr.lt fun e => hne sb e.symm rfl)
  have hk3 : ∀ k, K k → w3.heap[k]? = w.heap[k]? := fun k hk => blk k (h.kl k hk) fun e => Rs.own h.kt ho k e.symm hk
  have hsz : w.heap.size ≤ w3.heap.size := by have := g3.size; omega
  have hk4 : ∀ k, K k → (w3.setCell ⟨sb, 2, none⟩ v').heap[k]? = w.heap[k]? := fun k hk => (Below.heap_setCell _ _ _ _ (fun e => h.sbK (by have e : k = sb := e; rw [← e]; exact hk))).trans (hk3 k hk)
  have kp : Kp K w w3 := ⟨g3.os, g3.tape, g3.output, hsz, hk3⟩
  refine ⟨by rw [r3.cell]; rfl, r3.frozen 2, kp.setCell sb 2 h.sbK v', ?_⟩
  refine ⟨⟨v', by simpa using r3.setCell 2 v', o3.same fun g hg => Below.heap_setCell _ _ _ _ (Rs.ne o3 r3 g hg)⟩, kt_keep h.kt hk4, h.bts.keep fun g hg => ⟨hg, hk4 g hg⟩, h.sbK, fun k hk => ?_, h.bl, h.pl, by rw [List.length_append]; exact hx, h.ml, ?_⟩
  · have := h.kl k hk; simp [World.setCell]; omega
  · have := h.nl; simp [World.setCell]; omega
section
variable {K : Nat → Prop} {N : Nat} {w : World} {sb : Nat} {vb : Value} {b : List UInt8} {p : Nat} {out : List UInt8} {most : Nat} {fx : Value}
theorem Rs.more (h : Rs K N w sb vb b p out most fx) (g : Nat) {t : TypeId} {cur : Array Value} (r : Row w g t cur) (ht : t ≠ 5) (hs : g ≠ sb) : Rs (fun k => K k ∨ k = g) N w sb vb b p out most fx := by
  refine ⟨h.row, ?_, h.bts.keep fun g hg => ⟨.inl hg, rfl⟩, fun hh => ?_, fun k hk => ?_, h.bl, h.pl, h.ol, h.ml, h.nl⟩
  · rintro k (hk | rfl)
    · exact h.kt k hk
    · refine .inr fun c hc => ht ?_
      unfold Row at r hc
      rw [r] at hc
      simp at hc
      exact hc.2
  · rcases hh with hh | hh
    · exact h.sbK hh
    · exact hs hh.symm
  · rcases hk with hk | rfl
    · exact h.kl k hk
    · exact r.lt
theorem Rs.back {K' : Nat → Prop} {w' : World} {p' : Nat} {out' : List UInt8} (h : Rs K N w sb vb b p out most fx) (h' : Rs K' N w' sb vb b p' out' most fx) (kp : Kp K w w') : Rs K N w' sb vb b p' out' most fx :=
  ⟨h'.row, kt_keep h.kt kp.block, h.bts.keep fun g hg => ⟨hg, kp.block g hg⟩, h.sbK, fun k hk => Nat.lt_of_lt_of_le (h.kl k hk) kp.size, h'.bl, h'.pl, h'.ol, h'.ml, h'.nl⟩
theorem Rs.alloc (h : Rs K N w sb vb b p out most fx) (o : Obj) : Rs K N (w.alloc o) sb vb b p out most fx := by
  obtain ⟨vo, hr, ho⟩ := h.row
  have hk : ∀ k, k < w.heap.size → (w.alloc o).heap[k]? = w.heap[k]? := fun k hk => Below.heap_alloc _ _ _ hk
  refine ⟨⟨vo, hr.alloc o, ho.same fun g hg => ?_⟩, kt_keep h.kt fun k hk' => hk k (h.kl k hk'), h.bts.keep fun g hg => ⟨hg, hk g (h.kl g hg)⟩, h.sbK, fun k hk' => ?_, h.bl, h.pl, h.ol, h.ml, ?_⟩
  · obtain ⟨-, cur, r⟩ := ho.lt g hg
    exact hk g r.lt
  · have := h.kl k hk'; simp; omega
  · have := h.nl; simp; omega
theorem Rs.other (h : Rs K N w sb vb b p out most fx) (g o : Nat) (v : Value) {t : TypeId} {cur : Array Value} (r : Row w g t cur) (ht : t ≠ 5) (hs : g ≠ sb) (hg : ¬ K g) : Rs K N (w.setCell ⟨g, o, none⟩ v) sb vb b p out most fx := by
  obtain ⟨vo, hr, ho⟩ := h.row
  have hk : ∀ k, k ≠ g → (w.setCell ⟨g, o, none⟩ v).heap[k]? = w.heap[k]? := fun k hk => Below.heap_setCell _ _ _ _ hk
  have hne : ∀ k, K k → k ≠ g := fun k hk e => hg (e ▸ hk)
  refine ⟨⟨vo, hr.same (hk sb (Ne.symm hs)), ho.same fun q hq => hk q ?_⟩, kt_keep h.kt fun k hk' => hk k (hne k hk'), h.bts.keep fun q hq => ⟨hq, hk q (hne q hq)⟩, h.sbK, fun k hk' => by simpa [World.setCell] using h.kl k hk', h.bl, h.pl, h.ol, h.ml, by simpa [World.setCell] using h.nl⟩
  rintro rfl
  obtain ⟨-, c2, r2⟩ := ho.lt q hq
  unfold Row at r r2
  rw [r] at r2
  simp at r2
  exact ht r2.2
end
theorem Rs.below {K : Nat → Prop} {N : Nat} {w w' : World} {sb : Nat} {vb : Value} {b : List UInt8} {p : Nat} {out : List UInt8} {most : Nat} {fx : Value} (h : Rs K N w sb vb b p out most fx) (hb : Below w.heap.size w w') : Rs K N w' sb vb b p out most fx := by
  obtain ⟨vo, hr, ho⟩ := h.row
  refine ⟨⟨vo, hr.below hb hr.lt, ho.same fun g hg => ?_⟩, kt_keep h.kt fun k hk => hb.block k (h.kl k hk), h.bts.keep fun g hg => ⟨hg, hb.block g (h.kl g hg)⟩, h.sbK, fun k hk => Nat.lt_of_lt_of_le (h.kl k hk) hb.size, h.bl, h.pl, h.ol, h.ml, Nat.le_trans h.nl hb.size⟩
  obtain ⟨-, cur, r⟩ := ho.lt g hg
  exact hb.block g r.lt
theorem Rs.grown {K : Nat → Prop} {N : Nat} {w w' : World} {sb : Nat} {vb : Value} {b : List UInt8} {p : Nat} {out : List UInt8} {most : Nat} {fx : Value} (h : Rs K N w sb vb b p out most fx) (o : Option Nat) (g3 : w.grownBy w' o) (ho : ∀ g, o = some g → ¬ K g ∧ ∃ cur, Row w g 3 cur) : Rs K N w' sb vb b p out most fx ∧ Kp K w w' := by
  obtain ⟨vo, hr, hov⟩ := h.row
  have hk : ∀ k, K k → w'.heap[k]? = w.heap[k]? := fun k hk => g3.block k (h.kl k hk) (fun e => (ho k e.symm).1 hk)
  refine ⟨⟨⟨vo, hr.same (g3.block sb hr.lt fun e => ?_), hov.same fun q hq => ?_⟩, kt_keep h.kt hk, h.bts.keep fun q hq => ⟨hq, hk q hq⟩, h.sbK, fun k hk' => Nat.lt_of_lt_of_le (h.kl k hk') g3.size, h.bl, h.pl, h.ol, h.ml, Nat.le_trans h.nl g3.size⟩, ⟨g3.os, g3.tape, g3.output, g3.size, hk⟩⟩
  · obtain ⟨_, cur, r⟩ := ho sb e.symm
    unfold Row at r hr
    rw [r] at hr
    simp at hr
  · obtain ⟨-, c2, r2⟩ := hov.lt q hq
    refine g3.block q r2.lt fun e => ?_
    obtain ⟨_, cur, r⟩ := ho q e.symm
    unfold Row at r r2
    rw [r] at r2
    simp at r2
theorem Rs.fix {K : Nat → Prop} {N : Nat} {w : World} {sb : Nat} {vb : Value} {b : List UInt8} {p : Nat} {out : List UInt8} {most : Nat} {fx : Value} (h : Rs K N w sb vb b p out most fx) (v : Value) : Rs K N (w.setCell ⟨sb, 4, none⟩ v) sb vb b p out most v := by
  obtain ⟨vo, hr, ho⟩ := h.row
  have hk : ∀ k, K k → (w.setCell ⟨sb, 4, none⟩ v).heap[k]? = w.heap[k]? := fun k hk => Below.heap_setCell _ _ _ _ (fun e => h.sbK (by have e : k = sb := e; rw [← e]; exact hk))
  exact ⟨⟨vo, by simpa using hr.setCell 4 v, ho.same fun g hg => Below.heap_setCell _ _ _ _ (Rs.ne ho hr g hg)⟩, kt_keep h.kt hk, h.bts.keep fun g hg => ⟨hg, hk g hg⟩, h.sbK, fun k hk => by simpa [World.setCell] using h.kl k hk, h.bl, h.pl, h.ol, h.ml, by simpa [World.setCell] using h.nl⟩
theorem Rs.back2 {K K' : Nat → Prop} {N : Nat} {w w' : World} {sb : Nat} {vb : Value} {b : List UInt8} {p p' : Nat} {out out' : List UInt8} {most : Nat} {fx fx' : Value} (h : Rs K N w sb vb b p out most fx) (h' : Rs K' N w' sb vb b p' out' most fx') (kp : Kp K w w') : Rs K N w' sb vb b p' out' most fx' :=
  ⟨h'.row, kt_keep h.kt kp.block, h.bts.keep fun g hg => ⟨hg, kp.block g hg⟩, h.sbK, fun k hk => Nat.lt_of_lt_of_le (h.kl k hk) kp.size, h'.bl, h'.pl, h'.ol, h'.ml, h'.nl⟩
theorem results31 (T : Array Value) (w : World) : (results Try.f31 T).run Try.prog w = .ok (.tuple #[]) w := by
  unfold results
  simp [go_sem]
theorem results48 (T : Array Value) (w : World) : (results Try.f48 T).run Try.prog w = .ok (.tuple #[]) w := by
  unfold results
  simp [go_sem]
section
variable (K : Nat → Prop) (N : Nat) (w : World) (sb : Nat) (vb : Value) (b : List UInt8) (p : Nat) (out : List UInt8) (most : Nat)
theorem rfail_any (x : Int) (h : Rs K N w sb vb b p out most (.int .i64 0)) :
    Calls Try.prog 31 #[.pointer (some ⟨sb, 0, none⟩), .int .i64 x] w fun e w' => e = .returned (.tuple #[]) ∧ Kp K w w' ∧ Rs K N w' sb vb b p out most (.int .i64 x) := by
  obtain ⟨vo, hr, ho⟩ := h.row
  have c4 : w.cell? ⟨sb, 4, none⟩ = some (.int .i64 0) := by rw [hr.cell]; rfl
  have f4 := hr.frozen 4
  have H := Box'.mk (h.fix (.int .i64 x))
  have KP := Box'.mk ((Kp.refl K w).setCell sb 4 h.sbK (.int .i64 x))
  clear hr ho h
  go_enter Try.func31, Try.ntmps31
  go_wp2_with fail
  exact ⟨rfl, _, results31 _ _, rfl, KP.out, H.out⟩
theorem rtake_err (x : Int) (hx : x ≠ 0) (n : Nat) (h : Rs K N w sb vb b p out most (.int .i64 x)) :
    Calls Try.prog 26 #[.pointer (some ⟨sb, 0, none⟩), .int .i64 (n : Int)] w fun e w' => e = .returned (.int .i64 0) ∧ w' = w := by
  obtain ⟨vo, hr, ho⟩ := h.row
  have c4 : w.cell? ⟨sb, 4, none⟩ = some (.int .i64 x) := by rw [hr.cell]; rfl
  have hx' : (x != 0) = true := by simpa using hx
  clear hr ho h hx
  go_enter Try.func26, Try.ntmps26
  go_wp2_with fail
  go_ret
  exact ⟨rfl, rfl⟩
def tkF (b : List UInt8) (p n : Nat) : Except Int (Nat × Nat) := if p + n ≤ 8 * b.length then .ok (nbr b p n, p + n) else .error 7
def TEnds (r : Except Int (Nat × Nat)) (e : Ending) (w' : World) : Prop :=
  Kp K w w' ∧ ((∃ v q, r = .ok (v, q) ∧ e = .returned (.int .i64 (v : Int)) ∧ Rs K N w' sb vb b q out most (.int .i64 0)) ∨ (∃ x, r = .error x ∧ x ≠ 0 ∧ e = .returned (.int .i64 0) ∧ Rs K N w' sb vb b p out most (.int .i64 x)))
set_option maxRecDepth 100000 in
set_option maxHeartbeats 2000000 in
theorem rtake_any (n : Nat) (h16 : n ≤ 16) (h : Rs K N w sb vb b p out most (.int .i64 0)) :
    Calls Try.prog 26 #[.pointer (some ⟨sb, 0, none⟩), .int .i64 (n : Int)] w (TEnds K N w sb vb b p out most (tkF b p n)) := by
  obtain ⟨vo, hr, ho⟩ := h.row
  have c4 : w.cell? ⟨sb, 4, none⟩ = some (.int .i64 0) := by rw [hr.cell]; rfl
  have c0 : w.cell? ⟨sb, 0, none⟩ = some vb := by rw [hr.cell]; rfl
  have c1 : w.cell? ⟨sb, 1, none⟩ = some (.int .i64 (p : Int)) := by rw [hr.cell]; rfl
  have f1 := hr.frozen 1
  have hbl := h.bl
  have hpl := h.pl
  have hrd : ∀ m, Calls Try.prog 47 #[vb, .int .i64 (p : Int), .int .i64 (n : Int)] (w.drewN m) fun e w' => e = .returned (.tuple #[.int .u64 ((Gf.rdV b (p : Int) (n : Int) : Nat) : Int), .int .i64 (Gf.rdE b.length (p : Int) (n : Int))]) ∧ ∃ k, w' = (w.drewN m).drewN k := fun m =>
    (refRead_any K vb b (p : Int) (n : Int) hbl (w.drewN m) h.bts).mono fun e w' ⟨h1, h2⟩ => ⟨h1, 0, h2⟩
  have H := Box'.mk h
  by_cases hs : p + n ≤ 8 * b.length
  · obtain ⟨e1, e2⟩ := rd_ok (by omega) hs
    rw [e1, e2] at hrd
    have hlt : nbr b p n < 65536 + 1 := Nat.lt_of_lt_of_le (nbr_lt b p n) (Nat.le_trans (Nat.pow_le_pow_right (by decide) h16) (by decide))
    have TK : Box' (tkF b p n = .ok (nbr b p n, p + n)) := ⟨if_pos hs⟩
    have HS := Box'.mk hs
    have hsz : p + n ≤ 1125899906842624 := by omega
    generalize nbr b p n = v at *
    clear hr ho h e1 e2 hs
    go_enter Try.func26, Try.ntmps26
    go_wp2_with fail
    go_quiet ((go_at_call 47; exact Calls.quiet_of (hrd _)))
    have c1' : (w.drewN nq).cell? ⟨sb, 1, none⟩ = some (.int .i64 (p : Int)) := c1
    have f1' : (w.drewN nq).frozen? ⟨sb, 1, none⟩ = false := f1
    have K1 := Box'.mk (((Kp.refl K w).drewN nq).setCell sb 1 H.out.sbK (.int .i64 ((p + n : Nat) : Int)))
    have S1 := Box'.mk ((H.out.drewN nq).at_ (p + n) HS.out)
    rw [Int.natCast_add] at K1 S1
    clear c0 c1 c4 f1 hrd H
    generalize w.drewN nq = wq at *
    go_wp2_with fail
    go_ret
    exact ⟨K1.out, .inl ⟨v, p + n, TK.out, rfl, S1.out⟩⟩
  · obtain ⟨e1, e2⟩ := rd_short (by omega) hs
    rw [e1, e2] at hrd
    have TK : Box' (tkF b p n = .error 7) := ⟨if_neg hs⟩
    clear hr ho h e1 e2 hs
    go_enter Try.func26, Try.ntmps26
    go_wp2_with fail
    go_quiet ((go_at_call 47; exact Calls.quiet_of (hrd _)))
    have K1 := Box'.mk ((Kp.refl K w).drewN nq)
    have hf := rfail_any K N (w.drewN nq) sb vb b p out most 7 (H.out.drewN nq)
    clear c0 c1 c4 f1 hrd H
    generalize w.drewN nq = wq at *
    go_wp2_with fail
    refine hf.mono ?_
    clear hf
    rintro e w' ⟨rfl, kp, st⟩
    have KP := Box'.mk (K1.out.trans kp)
    have ST := Box'.mk st
    clear kp st
    go_wp2_with fail
    go_ret
    exact ⟨KP.out, .inr ⟨7, TK.out, by decide, rfl, ST.out⟩⟩
theorem rsym_err (x : Int) (hx : x ≠ 0) (v : Value) (h : Rs K N w sb vb b p out most (.int .i64 x)) :
    Calls Try.prog 49 #[.pointer (some ⟨sb, 0, none⟩), v] w fun e w' => e = .returned (.int .i64 0) ∧ w' = w := by
  obtain ⟨vo, hr, ho⟩ := h.row
  have c4 : w.cell? ⟨sb, 4, none⟩ = some (.int .i64 x) := by rw [hr.cell]; rfl
  have hx' : (x != 0) = true := by simpa using hx
  clear hr ho h hx
  go_enter Try.func49, Try.ntmps49
  go_wp2_with fail
  go_ret
  exact ⟨rfl, rfl⟩
end
open Go.RowKit Go.BigFrame Gt
section
variable (K : Nat → Prop) (N : Nat) (w : World) (sb : Nat) (vb : Value) (b : List UInt8) (p : Nat) (out : List UInt8) (most : Nat)
set_option maxRecDepth 100000 in
set_option maxHeartbeats 2000000 in
theorem rsym_any (v : Value) (l : List Int) (hl : l.length ≤ 1000) (hchk : Gf.chkE l = 0) (hi : Ints w.heap.size w v l) (h : Rs K N w sb vb b p out most (.int .i64 0)) :
    Calls Try.prog 49 #[.pointer (some ⟨sb, 0, none⟩), v] w (TEnds K N w sb vb b p out most (rdF l b p)) := by
  obtain ⟨vo, hr, ho⟩ := h.row
  have c4 : w.cell? ⟨sb, 4, none⟩ = some (.int .i64 0) := by rw [hr.cell]; rfl
  have CC : Box' (∀ w1, Below w.heap.size w w1 → w1.cell? ⟨sb, 0, none⟩ = some vb ∧ w1.cell? ⟨sb, 1, none⟩ = some (.int .i64 (p : Int)) ∧ w1.frozen? ⟨sb, 1, none⟩ = false ∧ w1.cell? ⟨sb, 4, none⟩ = some (.int .i64 0)) := ⟨fun w1 hb => by
    have r1 := hr.below hb hr.lt
    exact ⟨by rw [r1.cell]; rfl, by rw [r1.cell]; rfl, r1.frozen 1, by rw [r1.cell]; rfl⟩⟩
  have hbl := h.bl
  have hpl := h.pl
  have hR : Gf.symR l b (p : Int) = Gf.symF l (Gf.bitAt b p) 17 0 0 := by unfold Gf.symR; rw [if_neg (by omega), if_pos hchk, Int.toNat_natCast]
  have hlt := symF_lt l (Gf.bitAt b p) 17 0 0
  have hrdF : rdF l b p = if (Gf.symF l (Gf.bitAt b p) 17 0 0).2.2 = 0 then .ok ((Gf.symF l (Gf.bitAt b p) 17 0 0).1, p + (Gf.symF l (Gf.bitAt b p) 17 0 0).2.1) else .error (Gf.symF l (Gf.bitAt b p) 17 0 0).2.2 := rfl
  have hbd : ∀ s q, rdF l b p = .ok (s, q) → q ≤ 8 * b.length := fun s q hh => (ext_rd (c := []) hpl hh).2
  have SY : Box' (∀ w1, Below w.heap.size w w1 → Calls Try.prog 67 #[v, vb, .int .i64 (p : Int)] w1 fun e w' => e = .returned (sv (Gf.symR l b (p : Int))) ∧ Below w1.heap.size w1 w') := ⟨fun w1 hb => refSymbol_any v vb l b (p : Int) (by omega) hbl (by omega) w1 (hi.on hb) (h.bts.keep fun g hg => ⟨Nat.lt_of_lt_of_le (h.kl g hg) hb.size, hb.block g (h.kl g hg)⟩)⟩
  rw [hR] at SY
  rw [hrdF] at hbd
  have HRD := Box'.mk hrdF
  generalize rdF l b p = R0 at *
  have HB : Box' (∀ w1, Below w.heap.size w w1 → Rs K N w1 sb vb b p out most (.int .i64 0) ∧ Kp K w w1) := ⟨fun w1 hb => ⟨h.below hb, Kp.below hb h.kl⟩⟩
  have M0 : Box' (Below w.heap.size w w.drew) := ⟨(Below.refl _ _).drew⟩
  have HSB := Box'.mk h.sbK
  generalize Gf.symF l (Gf.bitAt b p) 17 0 0 = R at *
  obtain ⟨s, n, x⟩ := R
  simp only [sv] at SY hlt hbd HRD
  clear hr ho h hi hR hrdF hchk
  have HBD := Box'.mk hbd
  clear hbd
  go_enter Try.func49, Try.ntmps49
  go_wp2_with fail
  have e0 := (CC.out w.drew M0.out).1
  have e1 := (CC.out w.drew M0.out).2.1
  have sy := SY.out w.drew M0.out
  go_region_with (go_at_call 67; refine sy.mono ?_; rintro e w1 ⟨rfl, hb1⟩; have hC : Below w.heap.size w w1 := M0.out.trans (hb1.mono (by simp)))
  all_goals clear sy e0 e1
  · obtain ⟨d0, d1, f1, d4⟩ := CC.out w1 hC
    obtain ⟨st1, kp1⟩ := HB.out w1 hC
    by_cases hx : x = 0
    · subst hx
      have hs := hlt rfl
      have hbq := HBD.out s (p + n) rfl
      have S2 := Box'.mk (st1.at_ (p + n) hbq)
      have K2 := Box'.mk (kp1.setCell sb 1 HSB.out (.int .i64 ((p + n : Nat) : Int)))
      rw [Int.natCast_add] at S2 K2
      have hsz : p + n ≤ 1125899906842624 := by omega
      clear st1 kp1 HB SY CC HBD hlt
      go_wp2_with fail
      go_ret
      exact ⟨K2.out, .inl ⟨s, p + n, HRD.out, rfl, S2.out⟩⟩
    · have hx' : (x != 0) = true := by simpa using hx
      have hf := rfail_any K N w1 sb vb b p out most x st1
      have K1 := Box'.mk kp1
      have HX := Box'.mk hx
      clear st1 kp1 HB SY CC HBD hlt hx
      go_wp2_with fail
      refine hf.mono ?_
      clear hf
      rintro e w' ⟨rfl, kp, st⟩
      have KP := Box'.mk (K1.out.trans kp)
      have ST := Box'.mk st
      clear kp st
      go_wp2_with fail
      go_ret
      exact ⟨KP.out, .inr ⟨x, HRD.out.trans (if_neg HX.out), HX.out, rfl, ST.out⟩⟩
  · obtain ⟨d0, d1, f1, d4⟩ := CC.out w1 hC
    obtain ⟨st1, kp1⟩ := HB.out w1 hC
    by_cases hx : x = 0
    · subst hx
      have hs := hlt rfl
      have hbq := HBD.out s (p + n) rfl
      have S2 := Box'.mk (st1.at_ (p + n) hbq)
      have K2 := Box'.mk (kp1.setCell sb 1 HSB.out (.int .i64 ((p + n : Nat) : Int)))
      rw [Int.natCast_add] at S2 K2
      have hsz : p + n ≤ 1125899906842624 := by omega
      clear st1 kp1 HB SY CC HBD hlt
      go_wp2_with fail
      go_ret
      exact ⟨K2.out, .inl ⟨s, p + n, HRD.out, rfl, S2.out⟩⟩
    · have hx' : (x != 0) = true := by simpa using hx
      have hf := rfail_any K N w1 sb vb b p out most x st1
      have K1 := Box'.mk kp1
      have HX := Box'.mk hx
      clear st1 kp1 HB SY CC HBD hlt hx
      go_wp2_with fail
      refine hf.mono ?_
      clear hf
      rintro e w' ⟨rfl, kp, st⟩
      have KP := Box'.mk (K1.out.trans kp)
      have ST := Box'.mk st
      clear kp st
      go_wp2_with fail
      go_ret
      exact ⟨KP.out, .inr ⟨x, HRD.out.trans (if_neg HX.out), HX.out, rfl, ST.out⟩⟩
theorem rtell_err (x : Int) (hx : x ≠ 0) (c : UInt8) (h : Rs K N w sb vb b p out most (.int .i64 x)) :
    Calls Try.prog 48 #[.pointer (some ⟨sb, 0, none⟩), .int .u8 (c.toNat : Int)] w fun e w' => e = .returned (.tuple #[]) ∧ Kp K w w' ∧ Rs K N w' sb vb b p out most (.int .i64 x) := by
  obtain ⟨vo, hr, ho⟩ := h.row
  have c4 : w.cell? ⟨sb, 4, none⟩ = some (.int .i64 x) := by rw [hr.cell]; rfl
  have hx' : (x == 0) = false := by rw [beq_eq_false_iff_ne]; exact hx
  have HD : Box' (∀ m, Kp K w (w.drewN m) ∧ Rs K N (w.drewN m) sb vb b p out most (.int .i64 x)) := ⟨fun m => ⟨(Kp.refl K w).drewN m, h.drewN m⟩⟩
  clear hr ho h hx
  go_enter Try.func48, Try.ntmps48
  go_wp2_with fail
  go_quiet (fail)
  have c4' : (w.drewN nq).cell? ⟨sb, 4, none⟩ = some (.int .i64 x) := c4
  have H := Box'.mk (HD.out nq)
  clear c4 HD
  generalize w.drewN nq = wq at *
  go_wp2_with fail
  exact ⟨rfl, _, results48 _ _, rfl, H.out⟩
set_option maxRecDepth 100000 in
set_option maxHeartbeats 2000000 in
theorem rtell_any (x : UInt8) (h : Rs K N w sb vb b p out most (.int .i64 0)) :
    Calls Try.prog 48 #[.pointer (some ⟨sb, 0, none⟩), .int .u8 (x.toNat : Int)] w fun e w' => e = .returned (.tuple #[]) ∧ Kp K w w' ∧ ((out.length < most ∧ Rs K N w' sb vb b p (out ++ [x]) most (.int .i64 0)) ∨ (out.length = most ∧ Rs K N w' sb vb b p out most (.int .i64 4))) := by
  obtain ⟨vo, hr, ho⟩ := h.row
  have c2 : w.cell? ⟨sb, 2, none⟩ = some vo := by rw [hr.cell]; rfl
  have c3 : w.cell? ⟨sb, 3, none⟩ = some (.int .i64 (most : Int)) := by rw [hr.cell]; rfl
  have c4 : w.cell? ⟨sb, 4, none⟩ = some (.int .i64 0) := by rw [hr.cell]; rfl
  have hol := h.ol
  have hml := h.ml
  have H := Box'.mk h
  have HR := Box'.mk hr
  have HO := Box'.mk ho
  obtain ⟨a, c, rfl⟩ := ho.slice
  clear hr ho h
  generalize hL : out.length = L at *
  have HL := Box'.mk hL
  clear hL
  by_cases hs : L = most
  · subst hs
    have hd : decide ((L : Int) ≤ (L : Int)) = true := decide_eq_true (Int.le_refl _)
    go_enter Try.func48, Try.ntmps48
    go_wp2_with fail
    go_quiet (fail)
    have K1 := Box'.mk ((Kp.refl K w).drewN nq)
    have hf := rfail_any K N (w.drewN nq) sb vb b p out L 4 (H.out.drewN nq)
    clear c2 c3 c4 HR HO H
    generalize w.drewN nq = wq at *
    go_wp2_with fail
    refine hf.mono ?_
    clear hf
    rintro e w' ⟨rfl, kp, st⟩
    obtain ⟨_, hr2, _⟩ := st.row
    have c4 : w'.cell? ⟨sb, 4, none⟩ = some (.int .i64 4) := by rw [hr2.cell]; rfl
    have KP := Box'.mk (K1.out.trans kp)
    have ST := Box'.mk st
    clear kp st hr2
    go_wp2_with fail
    exact ⟨rfl, _, results48 _ _, rfl, KP.out, .inr ⟨trivial, ST.out⟩⟩
  · have hlt : L < most := by omega
    have hd : decide ((most : Int) ≤ (L : Int)) = false := decide_eq_false (by omega)
    clear hs
    go_enter Try.func48, Try.ntmps48
    go_wp2_with fail
    go_quiet (fail)
    have w2o : OwnB N ((w.drewN nq).alloc (.cells #[.int .u8 ((x.toNat : Nat) : Int)] 5)) (.slice a L c) out := HO.out.same fun g hg => by
      obtain ⟨-, cur, r⟩ := HO.out.lt g hg
      exact Below.heap_alloc _ _ _ r.lt
    have c2' : (w.drewN nq).cell? ⟨sb, 2, none⟩ = some (.slice a L c) := c2
    have c4' : (w.drewN nq).cell? ⟨sb, 4, none⟩ = some (.int .i64 0) := c4
    have rx : Row ((w.drewN nq).alloc (.cells #[.int .u8 ((x.toNat : Nat) : Int)] 5)) (w.drewN nq).heap.size 5 #[.int .u8 ((x.toNat : Nat) : Int)] := Row.new _ _ _
    have cx : ((w.drewN nq).alloc (.cells #[.int .u8 ((x.toNat : Nat) : Int)] 5)).cell? ⟨(w.drewN nq).heap.size, 0, none⟩ = some (.int .u8 ((x.toNat : Nat) : Int)) := by rw [rx.cell]; rfl
    have hN2 : N ≤ ((w.drewN nq).alloc (.cells #[.int .u8 ((x.toNat : Nat) : Int)] 5)).heap.size := by have := H.out.nl; simp; omega
    have hmx : out.length + 1 ≤ 1000000 := by rw [HL.out]; omega
    have GR : Box' (∀ v' w3, OwnB N w3 v' (out ++ [x]) → ((w.drewN nq).alloc (.cells #[.int .u8 ((x.toNat : Nat) : Int)] 5)).grownBy w3 (Value.slice a L c).ownBlock → w3.cell? ⟨sb, 2, none⟩ = some (.slice a L c) ∧ w3.frozen? ⟨sb, 2, none⟩ = false ∧ Kp K w (w3.setCell ⟨sb, 2, none⟩ v') ∧ Rs K N (w3.setCell ⟨sb, 2, none⟩ v') sb vb b p (out ++ [x]) most (.int .i64 0)) := ⟨fun v' w3 o3 g3 => H.out.grow HR.out HO.out nq _ x (by rw [HL.out]; exact hlt) o3 g3⟩
    clear c2 c3 c4 HR HO rx H
    generalize w.drewN nq = wq at *
    go_wp2_with (refine wpList_append_byte rfl (.tmp 32) (.tmp 34) rfl N hN2 _ out rfl w2o _ _ x rfl cx hmx ?_; intro v' w3 o3 g3; obtain ⟨k2, f2, kp, st⟩ := GR.out v' w3 o3 g3; obtain ⟨a', c', rfl⟩ := o3.slice; rw [List.length_append, List.length_singleton] at kp st; have KP := Box'.mk kp; have ST := Box'.mk st; clear GR w2o c2' cx hN2 o3 g3 kp st)
    exact ⟨rfl, _, results48 _ _, rfl, KP.out, .inl ⟨hlt, ST.out⟩⟩
end
end Go.Proofs.Ytcjfaahlchbcmaa
