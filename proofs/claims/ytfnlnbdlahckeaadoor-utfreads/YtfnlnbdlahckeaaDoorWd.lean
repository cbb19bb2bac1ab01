/- The drawn region of UtfReads: both readers take a byte. -/
import Derived.Test.YtfnlnbdlahckeaaDoorWa
import Derived.Test.YtfnlnbdlahckeaaDoorTg
import Derived.Test.YtfnlnbdlahckeaaDoorTd
import Derived.Deep.DrawnRows
import Derived.Deep.RegionHeld3
namespace Go.Proofs.YtfnlnbdlahckeaaDoor
open Go.RowKit Go.BigFrame
set_option linter.unusedVariables false
set_option linter.unusedSimpArgs false
attribute [local go_sem ↓] Go.wp_at_zero Go.wp_at_succ

/-- Truths that came in. -/
def InT (N : Nat) (w : World) (v : Value) (l : List Bool) : Prop := ∃ a c, v = .slice a l.length c ∧ (l = [] ∨ ∃ b o, a = some ⟨b, o, none⟩ ∧ b < N ∧ ∀ j, j < l.length → w.cell? ⟨b, o + j, none⟩ = some (.bool (l.getD j false)))
theorem FrX.low {rb N : Nat} {w w' : World} (h : FrX rb N w w') (h1 : rb ≤ N) (h2 : rb ≤ w.heap.size) : Below rb w w' := ⟨h.os, h.tape, h.output, h.size, fun k hk => h.block k (by omega) (by omega) (.inl (by omega))⟩
theorem KB.frx {rb X : Nat} {w w' : World} {v : Value} {S : List UInt8} (h : KB X w v S) (hx : FrX rb w.heap.size w w') (hr : rb < X) : KB X w' v S :=
  ⟨(h.bts.other fun b hb => hx.block b hb.2 (by omega) (.inl hb.2)).sub fun b hb => ⟨hb.1, Nat.lt_of_lt_of_le hb.2 hx.size⟩, h.sl⟩
theorem KB.below {X : Nat} {w w' : World} {v : Value} {S : List UInt8} (h : KB X w v S) (hx : Below w.heap.size w w') : KB X w' v S :=
  ⟨(h.bts.other fun b hb => hx.block b hb.2).sub fun b hb => ⟨hb.1, Nat.lt_of_lt_of_le hb.2 hx.size⟩, h.sl⟩
theorem OwnR.butT {N tb : Nat} {w w' : World} {v : Value} {d : List Int} (h : OwnR N w v d) (hb : But tb w w') {c : Array Value} (hr : Row w tb 35 c) : OwnR N w' v d :=
  h.same fun g hg => let ⟨_, _, r⟩ := h.lt g hg; hb.block g r.lt (own_neR h hr (by decide) g hg)
theorem KB.len {X : Nat} {w : World} {v : Value} {S : List UInt8} (h : KB X w v S) : ∃ a c, v = .slice a S.length c := by obtain ⟨a, c, h, _⟩ := h.bts; exact ⟨a, c, h⟩
/-- What stands behind one call of both readers' Take. -/
theorem both_take (rb tb : Nat) (w wr w3 : World) (v3 vB : Value) (S' : List UInt8) (x : UInt8) (hG : Gd S') (hrt : rb < tb) (hTB : Row wr tb 35 #[vB]) (hKB : KB (tb + 1) wr vB S') (hsz : tb + 1 ≤ wr.heap.size) (hBl : Below rb w wr) (wd : World) (ed : wd.heap = wr.heap) (bd : Below rb w wd)
    (x3 : FrX rb wd.heap.size wd w3) : Below rb w w3 ∧ Row w3 tb 35 #[vB] ∧ tb + 1 ≤ w3.heap.size ∧ KB (tb + 1) w3 vB S' := by
  have e : wd.heap.size = wr.heap.size := by rw [ed]
  refine ⟨bd.trans (x3.low (by omega) (by omega)), x3.row (hTB.same (by rw [ed])) (by omega) (by decide), by have := x3.size; omega, ?_⟩
  have k : KB (tb + 1) wd vB S' := ⟨(hKB.bts.other fun b _ => by rw [ed]).sub fun b hb => by rw [e]; exact hb, hKB.sl⟩
  exact k.frx x3 (by omega)
theorem Tab.heap {w w' : World} (h : Tab w) (e : w'.heap = w.heap) : Tab w' :=
  ⟨fun k hk j u hu => by have := h.cells k hk j u hu; unfold World.cell? at this ⊢; rw [e]; exact this, by rw [e]; exact h.lt⟩
def regOf' (n : Nat) : Code → Option Code
  | .region m o b => if m = n then some (.region m o b) else none
  | .block _ c => regOf' n c
  | .seq a b => match regOf' n a with
    | some c => some c
    | none => regOf' n b
  | .loop c => regOf' n c
  | .scope c => regOf' n c
  | .cond _ a b => match regOf' n a with
    | some c => some c
    | none => regOf' n b
  | _ => none
/-- What stands between the calls of two readers. -/
structure RS (rb tb : Nat) (w wr : World) (vB : Value) (S' : List UInt8) : Prop where
  good : Gd S'
  own : Row wr rb 45 (rdC true S')
  ref : Row wr tb 35 #[vB]
  kept : KB (tb + 1) wr vB S'
  size : tb + 1 ≤ wr.heap.size
  below : Below rb w wr
set_option maxRecDepth 1000000 in
set_option maxHeartbeats 40000000 in
theorem rdReg (bb ob n c1 rb tb k : Nat) (x : UInt8) (w : World) (u1 u2 u3 u4 u8 u9 u10 u11 u12 u13 u14 u15 u16 u17 u18 u19 u20 u21 u22 u23 u24 u25 u26 u27 u28 u29 u30 u31 u32 u33 u34 u35 u36 u37 u38 u39 u40 u41 u42 u43 u44 u45 u46 u47 u48 u49 u50 u51 u52 u53 u54 u55 u56 u57 u58 u59 u60 u61 u62 u63 u64 : Value) (wr : World) (vB : Value) (S' : List UInt8) (hT : Tab w) (h0 : 0 < rb) (hrw : w.heap.size = rb) (hrt : rb < tb) (hlt : k < n) (hn : n ≤ 140737488351232) (hR : RS rb tb w wr vB S') (hC : ∀ w', Below rb w w' → w'.cell? ⟨bb, ob + k, none⟩ = some (.int .u8 (x.toNat : Int))) :
    Code.wp Tryd.prog ((Tryd.f4.body.bind (regOf' 6)).getD .skip) (fun e a' w' => e = .normal ∧ ∃ v15 v16 v17 v18 v19 v20 v21 v22 v23 v24 v25 v26 v27 v28 v29 v30 v31 v32 v33 v34 v35 vN : Value, a' = ⟨List.toArray (.slice (some ⟨bb, ob, none⟩) n c1 :: u1 :: u2 :: u3 :: u4 :: .pointer (some ⟨rb, 0, none⟩) :: .pointer (some ⟨tb, 0, none⟩) :: .int .i64 (k : Int) :: u8 :: u9 :: u10 :: u11 :: u12 :: u13 :: u14 :: v15 :: v16 :: v17 :: v18 :: v19 :: v20 :: v21 :: v22 :: v23 :: v24 :: v25 :: v26 :: v27 :: v28 :: v29 :: v30 :: v31 :: v32 :: v33 :: v34 :: v35 :: u36 :: u37 :: u38 :: u39 :: u40 :: u41 :: u42 :: u43 :: u44 :: u45 :: u46 :: u47 :: u48 :: u49 :: u50 :: u51 :: u52 :: u53 :: u54 :: u55 :: u56 :: u57 :: u58 :: u59 :: u60 :: u61 :: u62 :: u63 :: u64 :: []), []⟩ ∧ v35 = .bool false ∧ RS rb tb w w' vN (putF S' x).2) ⟨List.toArray (.slice (some ⟨bb, ob, none⟩) n c1 :: u1 :: u2 :: u3 :: u4 :: .pointer (some ⟨rb, 0, none⟩) :: .pointer (some ⟨tb, 0, none⟩) :: .int .i64 (k : Int) :: u8 :: u9 :: u10 :: u11 :: u12 :: u13 :: u14 :: u15 :: u16 :: u17 :: u18 :: u19 :: u20 :: u21 :: u22 :: u23 :: u24 :: u25 :: u26 :: u27 :: u28 :: u29 :: u30 :: u31 :: u32 :: u33 :: u34 :: u35 :: u36 :: u37 :: u38 :: u39 :: u40 :: u41 :: u42 :: u43 :: u44 :: u45 :: u46 :: u47 :: u48 :: u49 :: u50 :: u51 :: u52 :: u53 :: u54 :: u55 :: u56 :: u57 :: u58 :: u59 :: u60 :: u61 :: u62 :: u63 :: u64 :: []), []⟩ wr := by
  conv => arg 2; whnf
  obtain ⟨hG, hO, hTB, hKB, hsz, hBl⟩ := hR
  have HG := Box'.mk hG
  have HR := Box'.mk hO
  have HTB := Box'.mk hTB
  have HKB := Box'.mk hKB
  have HSZ := Box'.mk hsz
  have HBl := Box'.mk hBl
  have HTR := Box'.mk hrt
  have HRB0 : Box' (rb ≠ 0) := ⟨by omega⟩
  have HCK := Box'.mk hC
  have ck := hC wr hBl
  have HTA : Box' (Tab wr) := ⟨hT.below (hrw ▸ hBl) h0⟩
  have T1 := Box'.mk (fun (w' : World) (e : w'.heap = wr.heap) => take_any rb S' x w' (HTA.out.heap e) HRB0.out (HR.out.same (by rw [e])) HG.out)
  obtain ⟨aB, mB, cB, hvB⟩ : ∃ a m c, vB = .slice a m c := by obtain ⟨a, c, h, _⟩ := HKB.out.bts; exact ⟨_, _, _, h⟩
  subst hvB
  have HG2 := Box'.mk (putF_good HG.out x)
  have BT := Box'.mk (fun (wd w3 : World) (v3 : Value) (ed : wd.heap = wr.heap) (bd : Below rb w wd) (x3 : FrX rb wd.heap.size wd w3) => both_take rb tb w wr w3 v3 _ S' x HG.out HTR.out HTB.out HKB.out HSZ.out HBl.out wd ed bd x3)
  clear hG hO hTB hKB hsz hBl hC hT
  refine wp_region_noPanic ?_
  go_region_with (first
        | (go_at_call 17; refine (T1.out wr.drew rfl).mono ?_; rintro e w3 ⟨v3, rfl, r3, o3, x3⟩; obtain ⟨b3, t3, s3, k3⟩ := BT.out wr.drew w3 v3 rfl HBl.out.drew x3; have hc3 := HCK.out w3 b3; have T2 := Box'.mk (rtake_any bg_ok tb (tb + 1) w3 _ S' x HG.out t3 s3 (Nat.lt_succ_self _) k3))
        | (go_at_call 18; refine T2.out.mono ?_; rintro e w4 ⟨v4, vB4, rfl, o4, t4, k4, b4⟩; have bl4 := b3.trans (b4.below (by omega) (by omega)); have hc4 := HCK.out w4 bl4; have r4 := b4.row r3 (by omega); have s4 := Nat.le_trans s3 b4.size; have T3 := Box'.mk (sameR_any _ _ v3 v4 _ _ w4 (o3.butT b4 t3).btsR o4.btsR (fun _ h => h) (fun _ h => h) (by have := putF_len S' x; have := HG.out.len; simp; omega) (by have := putF_len S' x; have := HG.out.len; omega)); rw [List.nil_append, show decide ((putF S' x).1 = (putF S' x).1) = true by simp] at T3)
        | (go_at_call 9; refine T3.out.mono ?_; rintro e w5 ⟨rfl, b5⟩; have bl5 := bl4.trans (b5.mono (by omega)); have hc5 := HCK.out w5 bl5; have r5 := r4.below b5 r4.lt; have t5 := t4.below b5 t4.lt; have s5 := Nat.le_trans s4 b5.size; have k5 := k4.below b5; have T4 := Box'.mk (waits_any rb _ w5 r5); obtain ⟨aN, cN, hvN⟩ := k5.len; subst hvN; have ct5 : w5.cell? ⟨tb, 0, none⟩ = some (.slice aN (putF S' x).2.length cN) := (by rw [t5.cell]; rfl))
        | (go_at_call 19; refine T4.out.mono ?_; rintro e w6 ⟨rfl, hw⟩; obtain rfl := hw.symm))
  all_goals refine NoPanic.normal ?_
  all_goals exact ⟨rfl, _, _, _, _, _, _, _, _, _, _, _, _, _, _, _, _, _, _, _, _, _, _, rfl, by first | rfl | simp, HG2.out, r5, t5, k5, s5, bl5⟩
end Go.Proofs.YtfnlnbdlahckeaaDoor
