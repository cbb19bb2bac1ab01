/- UtfReads, walked. -/
import Derived.Test.YtfnlnbdlahckeaaDoorWd
namespace Go.Proofs.YtfnlnbdlahckeaaDoor
open Go.RowKit Go.BigFrame
set_option linter.unusedVariables false
set_option linter.unusedSimpArgs false

theorem RS.ended {rb tb : Nat} {w w5 w6 : World} {vN : Value} {S2 : List UInt8} (h : RS rb tb w w5 vN S2) (hrt : rb < tb) (x6 : FrX rb w5.heap.size w5 w6) : Row w6 tb 35 #[vN] ∧ KB (tb + 1) w6 vN S2 ∧ tb + 1 ≤ w6.heap.size ∧ Below rb w w6 := by
  have := h.size
  exact ⟨x6.row h.ref (by omega) (by decide), h.kept.frx x6 (by omega), Nat.le_trans h.size x6.size, h.below.trans (x6.low (by omega) (by omega))⟩
theorem finF_len (S : List UInt8) : (finF S).length ≤ 1 := by cases S <;> simp [finF]
set_option maxRecDepth 100000 in
set_option maxHeartbeats 4000000 in
theorem reads_any (w : World) (hT : Tab w) (S : Nat → Prop) (vb : Value) (b : List UInt8) (hb : Bts S w vb b) (hS : ∀ b, S b → b < w.heap.size) (ve : Value) (es : List Bool) (he : InT w.heap.size w ve es) (hl : b.length ≤ 140737488351232) (hle : es.length ≤ 140737488351232) :
    Calls Tryd.prog 4 #[vb, ve] w fun e w' => e = .returned (.bool true) ∧ Below w.heap.size w w' := by
  have HT := Box'.mk hT
  have HB := Box'.mk hb
  have HS := Box'.mk hS
  have HEE := Box'.mk he
  obtain ⟨a1, c1, rfl, -, -⟩ := hb
  obtain ⟨a2, c2, rfl, -⟩ := he
  have h0 := hT.lt
  clear hT hS
  generalize hn : b.length = n at *
  have HN := Box'.mk hn
  generalize hne : es.length = en at *
  have HNE := Box'.mk hne
  clear hn hne
  have NW := Box'.mk (new_any w)
  go_enter Tryd.func4, Tryd.ntmps4
  go_wp2_with fail
  refine NW.out.mono ?_
  rintro e w1 ⟨rfl, r1, b1⟩
  have ra := r1.alloc (.cells #[.slice none 0 0] 35)
  have rt := Row.new w1 35 #[.slice none 0 0]
  have ba := b1.alloc b1.size (.cells #[.slice none 0 0] 35)
  have hrl := r1.lt
  generalize hrb : w.heap.size = rb at *
  generalize htb : w1.heap.size = tb at *
  clear NW r1 b1
  go_wp2_with fail
  generalize hW2 : World.alloc w1 _ = w2
  have hsz2 : w2.heap.size = tb + 1 := by rw [← hW2]; simp [htb]
  rw [hW2] at ra rt ba
  have HR := Box'.mk ra
  have HTB := Box'.mk rt
  have HBl := Box'.mk ba
  have HTR : Box' (rb < tb) := ⟨hrl⟩
  have HKB : Box' (KB (tb + 1) w2 (.slice none 0 0) []) := ⟨⟨⟨none, 0, rfl, by simp, .inl rfl⟩, .inl rfl⟩⟩
  have HS0 : Box' (tb + 1 ≤ w2.heap.size) := ⟨by omega⟩
  have HRB0 : Box' (rb ≠ 0) := ⟨by omega⟩
  clear hW2 ra rt ba hsz2 hrl htb
  go_loopw [7] (fun iv wr => ∃ (k : Nat) (S' : List UInt8) (vB : Value), iv = .int .i64 (k : Int) ∧ k ≤ n ∧ Box' (Gd S') ∧ Box' (Row wr rb 45 (rdC true S')) ∧ Box' (Row wr tb 35 #[vB]) ∧ Box' (KB (tb + 1) wr vB S') ∧ Box' (tb + 1 ≤ wr.heap.size) ∧ Box' (Below rb w wr)) (fun iv _ => n - (intOf iv).toNat)
  case atStart => exact ⟨0, [], _, rfl, by omega, ⟨trivial⟩, HR, HTB, HKB, HS0, HBl⟩
  case round =>
    clear HR HTB HKB HS0 HBl
    obtain ⟨k, S', vB, rfl, hk, HG, HR, HTB, HKB, HSZ, HBl⟩ := hrel
    by_cases hlt : k < n
    · have hkb : 0 < b.length := by rw [HN.out]; omega
      have hkl : k < b.length := by rw [HN.out]; exact hlt
      obtain ⟨bb, ob, cb, eb, sb, clb⟩ := HB.out.cells hkb
      have ck0 := clb k hkl
      have hbb : bb < rb := HS.out _ sb
      have ck : wr.cell? ⟨bb, ob + k, none⟩ = some (.int .u8 ((b.getD k 0).toNat : Int)) := by rw [(bcell HBl.out).1 _ _ hbb]; exact ck0
      have HCK : Box' (∀ w', Below rb w w' → w'.cell? ⟨bb, ob + k, none⟩ = some (.int .u8 ((b.getD k 0).toNat : Int))) := ⟨fun w' hb => by rw [(bcell hb).1 _ _ hbb]; exact ck0⟩
      rw [HN.out] at eb
      injection eb with e1 _ e2
      subst e1 e2
      clear clb ck0 sb hkb
      generalize b.getD k 0 = x at *
      have RR := Box'.mk (fun u1 u2 u3 u4 u8 u9 u10 u11 u12 u13 u14 u15 u16 u17 u18 u19 u20 u21 u22 u23 u24 u25 u26 u27 u28 u29 u30 u31 u32 u33 u34 u35 u36 u37 u38 u39 u40 u41 u42 u43 u44 u45 u46 u47 u48 u49 u50 u51 u52 u53 u54 u55 u56 u57 u58 u59 u60 u61 u62 u63 u64 => rdReg bb ob n c1 rb tb k x w u1 u2 u3 u4 u8 u9 u10 u11 u12 u13 u14 u15 u16 u17 u18 u19 u20 u21 u22 u23 u24 u25 u26 u27 u28 u29 u30 u31 u32 u33 u34 u35 u36 u37 u38 u39 u40 u41 u42 u43 u44 u45 u46 u47 u48 u49 u50 u51 u52 u53 u54 u55 u56 u57 u58 u59 u60 u61 u62 u63 u64 wr vB S' HT.out h0 hrb HTR.out hlt hl ⟨HG.out, HR.out, HTB.out, HKB.out, HSZ.out, HBl.out⟩ HCK.out)
      clear HG HR HTB HKB HSZ HBl ck
      go_upto_region 6 with fail
      refine wp_mono (RR.out _ _ _ _ _ _ _ _ _ _ _ _ _ _ _ _ _ _ _ _ _ _ _ _ _ _ _ _ _ _ _ _ _ _ _ _ _ _ _ _ _ _ _ _ _ _ _ _ _ _ _ _ _ _ _ _ _ _ _ _ _) ?_
      rintro r a' w5 ⟨rfl, v15, v16, v17, v18, v19, v20, v21, v22, v23, v24, v25, v26, v27, v28, v29, v30, v31, v32, v33, v34, v35, vN, rfl, rfl, RS5⟩
      clear RR
      have HRS := Box'.mk RS5
      clear RS5
      generalize (putF S' x).2 = S2 at *
      have EE := Box'.mk (end_any rb S2 w5 HRS.out.own)
      by_cases hke : k < en
      · obtain ⟨ba, oe, rfl, hbe, hce⟩ : ∃ ba oe, a2 = some ⟨ba, oe, none⟩ ∧ ba < rb ∧ w5.cell? ⟨ba, oe + k, none⟩ = some (.bool (es.getD k false)) := by
          obtain ⟨a, c, h1, h2⟩ := HEE.out
          injection h1 with e1 _ e2
          rcases h2 with h2 | ⟨ba, oe, h3, h4, h5⟩
          · exfalso; have := HNE.out; rw [h2] at this; simp at this; omega
          · exact ⟨ba, oe, by rw [e1, h3], h4, by rw [(bcell HRS.out.below).1 _ _ h4]; exact h5 k (by rw [HNE.out]; exact hke)⟩
        cases hes : es.getD k false with
        | false =>
          rw [hes] at hce
          clear EE hes
          go_wp2_with fail
          exact ⟨⟨k + 1, S2, vN, by go_num, by omega, ⟨HRS.out.good⟩, ⟨HRS.out.own⟩, ⟨HRS.out.ref⟩, ⟨HRS.out.kept⟩, ⟨HRS.out.size⟩, ⟨HRS.out.below⟩⟩, by simp [intOf]; omega⟩
        | true =>
          rw [hes] at hce
          clear hes
          go_wp2_with fail
          refine EE.out.mono ?_
          rintro e w6 ⟨v6, rfl, r6, o6, x6⟩
          obtain ⟨t6, k6, s6, b6⟩ := HRS.out.ended HTR.out x6
          have RE := Box'.mk (rend_any bg_ok tb (tb + 1) w6 vN S2 HRS.out.good t6 k6.bts)
          have HR6 := Box'.mk r6
          have HO6 := Box'.mk o6
          have HT6 := Box'.mk t6
          have HB6 := Box'.mk b6
          have HS6 := Box'.mk s6
          clear EE HRS r6 o6 x6 t6 k6 s6 b6
          go_wp2_with fail
          refine RE.out.mono ?_
          rintro e w7 ⟨v7, rfl, o7, t7, b7⟩
          have SM := Box'.mk (sameR_any _ _ v6 v7 _ _ w7 (HO6.out.butT b7 HT6.out).btsR o7.btsR (fun _ h => h) (fun _ h => h) (by have := finF_len S2; omega) (by have := finF_len S2; omega))
          rw [show decide (finF S2 = finF S2) = true by simp] at SM
          have HR7 : Box' (Row w7 rb 45 (rdC true [])) := ⟨b7.row HR6.out (by have := HTR.out; omega)⟩
          have HT7 := Box'.mk t7
          have HB7 : Box' (Below rb w w7) := ⟨HB6.out.trans (b7.below (by have := HS6.out; have := HTR.out; omega) (by have := HTR.out; omega))⟩
          have HS7 : Box' (tb + 1 ≤ w7.heap.size) := ⟨Nat.le_trans HS6.out b7.size⟩
          clear RE HR6 HO6 HT6 HB6 HS6 o7 t7 b7
          go_wp2_with fail
          refine SM.out.mono ?_
          rintro e w8 ⟨rfl, b8⟩
          have R8 := HR7.out.below b8 HR7.out.lt
          have T8 := HT7.out.below b8 HT7.out.lt
          have B8 := HB7.out.trans (b8.mono (by have := HS7.out; have := HTR.out; omega))
          have S8 := Nat.le_trans HS7.out b8.size
          clear SM HR7 HT7 HB7 HS7 b8
          go_wp2_with fail
          exact ⟨⟨k + 1, [], .slice none 0 0, by go_num, by omega, ⟨trivial⟩, ⟨R8⟩, ⟨T8⟩, ⟨⟨⟨none, 0, rfl, by simp, .inl rfl⟩, .inl rfl⟩⟩, ⟨S8⟩, ⟨B8⟩⟩, by simp [intOf]; omega⟩
      · clear EE
        go_wp2_with fail
        exact ⟨⟨k + 1, S2, vN, by go_num, by omega, ⟨HRS.out.good⟩, ⟨HRS.out.own⟩, ⟨HRS.out.ref⟩, ⟨HRS.out.kept⟩, ⟨HRS.out.size⟩, ⟨HRS.out.below⟩⟩, by simp [intOf]; omega⟩
    · obtain rfl : k = n := by omega
      have HRS : Box' (RS rb tb w wr vB S') := ⟨⟨HG.out, HR.out, HTB.out, HKB.out, HSZ.out, HBl.out⟩⟩
      have AN := Box'.mk (anch_any wr (HT.out.below (hrb ▸ HBl.out) h0))
      clear HG HR HTB HKB HSZ HBl HB HEE
      go_wp2_with fail
      refine AN.out.mono ?_
      rintro e w5 ⟨rfl, b5⟩
      have HRS5 : Box' (RS rb tb w w5 vB S') := ⟨⟨HRS.out.good, HRS.out.own.below b5 HRS.out.own.lt, HRS.out.ref.below b5 HRS.out.ref.lt, HRS.out.kept.below b5, Nat.le_trans HRS.out.size b5.size, HRS.out.below.trans (b5.mono (by have := HRS.out.size; have := HTR.out; omega))⟩⟩
      clear AN HRS b5
      have EE := Box'.mk (end_any rb S' w5 HRS5.out.own)
      go_wp2_with fail
      refine EE.out.mono ?_
      rintro e w6 ⟨v6, rfl, r6, o6, x6⟩
      obtain ⟨t6, k6, s6, b6⟩ := HRS5.out.ended HTR.out x6
      have RE := Box'.mk (rend_any bg_ok tb (tb + 1) w6 vB S' HRS5.out.good t6 k6.bts)
      have HR6 := Box'.mk r6
      have HO6 := Box'.mk o6
      have HT6 := Box'.mk t6
      have HB6 := Box'.mk b6
      have HS6 := Box'.mk s6
      clear EE HRS5 r6 o6 x6 t6 k6 s6 b6
      go_wp2_with fail
      refine RE.out.mono ?_
      rintro e w7 ⟨v7, rfl, o7, t7, b7⟩
      have SM := Box'.mk (sameR_any _ _ v6 v7 _ _ w7 (HO6.out.butT b7 HT6.out).btsR o7.btsR (fun _ h => h) (fun _ h => h) (by have := finF_len S'; omega) (by have := finF_len S'; omega))
      rw [show decide (finF S' = finF S') = true by simp] at SM
      have HR7 : Box' (Row w7 rb 45 (rdC true [])) := ⟨b7.row HR6.out (by have := HTR.out; omega)⟩
      have HT7 := Box'.mk t7
      have HB7 : Box' (Below rb w w7) := ⟨HB6.out.trans (b7.below (by have := HS6.out; have := HTR.out; omega) (by have := HTR.out; omega))⟩
      have HS7 : Box' (tb + 1 ≤ w7.heap.size) := ⟨Nat.le_trans HS6.out b7.size⟩
      clear RE HR6 HO6 HT6 HB6 HS6 o7 t7 b7
      go_wp2_with fail
      refine SM.out.mono ?_
      rintro e w8 ⟨rfl, b8⟩
      have R8 := HR7.out.below b8 HR7.out.lt
      have T8 := HT7.out.below b8 HT7.out.lt
      have B8 := HB7.out.trans (b8.mono (by have := HS7.out; have := HTR.out; omega))
      have S8 := Nat.le_trans HS7.out b8.size
      clear SM HR7 HT7 HB7 HS7 b8
      have WT := Box'.mk (waits_any rb [] w8 R8)
      clear R8 T8 S8
      go_wp2_with fail
      refine WT.out.mono ?_
      rintro e w9 ⟨rfl, hw⟩
      obtain rfl := hw.symm
      clear WT
      go_wp2_with fail
      go_ret
      exact ⟨rfl, hrb ▸ B8⟩
end Go.Proofs.YtfnlnbdlahckeaaDoor
