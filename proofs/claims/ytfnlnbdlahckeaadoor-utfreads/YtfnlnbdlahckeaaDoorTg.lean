/- The reference's reader: Take and End. -/
import Derived.Test.YtfnlnbdlahckeaaDoorTf
namespace Go.Proofs.YtfnlnbdlahckeaaDoor
open Go.RowKit Go.BigFrame
set_option linter.unusedVariables false
set_option linter.unusedSimpArgs false

theorem dec_kept {S : List UInt8} (h : Gd S) : decF [] S = finF S := by
  cases S with
  | nil => rfl
  | cons a t =>
    have q := (dec_next (b := a :: t) (by simp)).2.2
    rw [nxF_end h (by simp)] at q
    rw [q, List.drop_of_length_le (Nat.le_refl _)]
    rfl
set_option maxRecDepth 100000 in
set_option maxHeartbeats 4000000 in
theorem rend_any (HBG : BgOk) (tb X : Nat) (w : World) (v : Value) (S : List UInt8) (hg : Gd S) (hr : Row w tb 35 #[v]) (hb : Bts (fun b => X ≤ b ∧ b < w.heap.size) w v S) :
    Calls Tryd.prog 21 #[.pointer (some ⟨tb, 0, none⟩)] w fun e w' => ∃ v', e = .returned v' ∧ OwnR w.heap.size w' v' (finF S) ∧ Row w' tb 35 #[.slice none 0 0] ∧ But tb w w' := by
  have hlen := hg.len
  have DC := Box'.mk (rdecode_any HBG _ w v S hb (fun b h => h.2) (by omega))
  rw [dec_kept hg] at DC
  have HR := Box'.mk hr
  have c0 : w.cell? ⟨tb, 0, none⟩ = some v := by rw [hr.cell]; rfl
  obtain ⟨a1, c1, rfl, -, -⟩ := hb
  generalize S.length = n at *
  clear hr HBG
  go_enter Tryd.func21, Tryd.ntmps21
  go_wp2_with fail
  refine DC.out.mono ?_
  rintro e w2 ⟨v2, rfl, o2, b2⟩
  have r2 := HR.out.below b2 HR.out.lt
  have HR2 := Box'.mk r2
  have HO2 := Box'.mk o2
  have HB2 := Box'.mk b2
  have f0 := r2.frozen 0
  have k0 : w2.cell? ⟨tb, 0, none⟩ = some (.slice a1 n c1) := by rw [r2.cell]; rfl
  obtain ⟨a2, c2, hu⟩ := o2.slice
  subst hu
  have HTB := Box'.mk HR.out.lt
  generalize (finF S).length = fl at *
  clear DC HR r2 o2 b2 c0
  go_wp2_with fail
  go_ret
  have r3 := HR2.out.setCell 0 (.slice none 0 0)
  have o3 : OwnR w.heap.size (w2.setCell ⟨tb, 0, none⟩ (.slice none 0 0)) (.slice a2 fl c2) (finF S) := HO2.out.same fun g hg => by
    have := (HO2.out.lt g hg).1
    have := HTB.out
    exact Below.heap_setCell _ _ _ _ (by show g ≠ tb; omega)
  exact ⟨_, rfl, o3, r3, (But.of HB2.out).setCell 0 _⟩
/-- The reference's reader keeps the bytes S, behind X. -/
structure KB (X : Nat) (w : World) (v : Value) (S : List UInt8) : Prop where
  bts : Bts (fun b => X ≤ b ∧ b < w.heap.size) w v S
  sl : v = .slice none 0 0 ∨ ∃ ad m c, v = .slice (some ad) m c
theorem KB.inE {X : Nat} {w : World} {v : Value} {S : List UInt8} (h : KB X w v S) : InE w.heap.size w v S := by
  obtain ⟨a, c, e, hc, h3⟩ := h.bts
  rcases h.sl with hn | ⟨ad, m, c', hv⟩
  · rw [hn] at e
    injection e with e1 e2 e3
    exact .inl ⟨hn, List.eq_nil_of_length_eq_zero e2.symm⟩
  · rw [hv] at e
    injection e with e1 e2 e3
    subst e1
    refine .inr ⟨ad, c, by rw [hv, e2, e3], hc, ?_, ?_⟩
    · rcases h3 with h3 | ⟨b, o, h4, h5, h6⟩
      · exact .inl h3
      · injection h4 with h4; subst h4; exact .inr h5.2
    · rcases h3 with h3 | ⟨b, o, h4, h5, h6⟩
      · subst h3; intro j u hu; simp at hu
      · injection h4 with h4; subst h4; intro j u hu; rw [Addr.add_mid]; exact h6 j u hu
theorem Bts.other {S : Nat → Prop} {w w' : World} {v : Value} {l : List UInt8} (h : Bts S w v l) (hk : ∀ b, S b → w'.heap[b]? = w.heap[b]?) : Bts S w' v l := h.keep fun b hb => ⟨hb, hk b hb⟩
theorem Bts.sub {S S' : Nat → Prop} {w : World} {v : Value} {l : List UInt8} (h : Bts S w v l) (hk : ∀ b, S b → S' b) : Bts S' w v l := h.keep fun b hb => ⟨hk b hb, rfl⟩
theorem own_bts {N : Nat} {w : World} {v : Value} {d : List UInt8} (h : OwnB N w v d) : Bts (fun b => N ≤ b ∧ b < w.heap.size) w v d := by
  rcases h.2 with ⟨e, e0⟩ | ⟨g, cap, cur, e1, e2, e3, e4, e5, e6, e7⟩
  · exact ⟨none, 0, by rw [e, e0], by omega, .inl (List.eq_nil_of_length_eq_zero e0)⟩
  · have r : Row w g 5 cur := e3
    refine ⟨_, cap, e1, e4, .inr ⟨g, 0, rfl, ⟨e2, r.lt⟩, fun j u hu => ?_⟩⟩
    have hj := (List.getElem?_eq_some_iff.1 hu).1
    rw [List.length_map] at hj
    rw [Nat.zero_add, r.cell]
    rw [← e7, List.getElem?_take_of_lt (by omega)] at hu
    simpa using hu
theorem own_sl {N : Nat} {w : World} {v : Value} {d : List UInt8} (h : OwnB N w v d) : v = .slice none 0 0 ∨ ∃ ad m c, v = .slice (some ad) m c := by
  rcases h.2 with ⟨e, e0⟩ | ⟨g, cap, cur, e1, _⟩
  · exact .inl e
  · exact .inr ⟨_, _, _, e1⟩
set_option maxRecDepth 100000 in
set_option maxHeartbeats 4000000 in
theorem rtake_any (HBG : BgOk) (tb X : Nat) (w : World) (v : Value) (S : List UInt8) (b : UInt8) (hg : Gd S) (hr : Row w tb 35 #[v]) (hX : X ≤ w.heap.size) (htX : tb < X) (hb : KB X w v S) :
    Calls Tryd.prog 18 #[.pointer (some ⟨tb, 0, none⟩), .int .u8 (b.toNat : Int)] w fun e w' => ∃ v' vB, e = .returned v' ∧ OwnR w.heap.size w' v' (putF S b).1 ∧ Row w' tb 35 #[vB] ∧ KB X w' vB (putF S b).2 ∧ But tb w w' := by
  have hlen := hg.len
  have HR := Box'.mk (hr.alloc (.cells #[] 5))
  have c0 : (w.alloc (.cells #[] 5)).cell? ⟨tb, 0, none⟩ = some v := by rw [HR.out.cell]; rfl
  have B0 : Below w.heap.size w (w.alloc (.cells #[] 5)) := (Below.refl _ _).alloc (Nat.le_refl _) _
  have HI := Box'.mk (hb.inE.below B0 (Nat.le_refl _))
  have HO0 : Box' (OwnB w.heap.size (w.alloc (.cells #[] 5)) (.slice (some ⟨w.heap.size, 0, none⟩) 0 0) []) := ⟨⟨rfl, .inr ⟨_, _, #[], rfl, Nat.le_refl _, Row.new w 5 #[], Nat.le_refl _, Nat.zero_le _, rfl, rfl⟩⟩⟩
  have hsz : w.heap.size ≤ (w.alloc (.cells #[] 5)).heap.size := by simp
  have HTK := Box'.mk (tk_put hg b)
  have htb := hr.lt
  obtain ⟨a1, c1, hv, -⟩ := hb.inE.slice
  subst hv
  generalize hn : S.length = n at *
  have HN := Box'.mk hn
  have HB0 := Box'.mk B0
  have HSZ := Box'.mk hsz
  clear hr hn hb B0 hsz
  have HBG' := Box'.mk HBG
  clear HBG
  generalize hP : putF S b = P at *
  clear hP
  go_enter Tryd.func18, Tryd.ntmps18
  go_wp2_with (first
    | (refine wpList_appE rfl (.tmp 10) (.tmp 14) rfl w.heap.size w.heap.size HSZ.out _ [] rfl HO0.out _ S rfl HI.out (by rw [HN.out]; simp; omega) ?_; intro v1 w1 o1 f1)
    | (refine wpList_app rfl (.tmp 15) (.tmp 17) rfl w.heap.size _ (by have := f1.size; have := HSZ.out; simp at *; omega) _ ([] ++ S) rfl (o1.alloc _) _ [b] rfl (one_in w1 b) (by rw [List.nil_append, HN.out]; simp; omega) ?_; intro v2 w2 o2 f2; have r2 := f2.row ((f1.row HR.out (by decide)).alloc _) (by decide); have k2 : w2.cell? ⟨tb, 0, none⟩ = some (.slice a1 n c1) := by { rw [r2.cell]; rfl }; have z2 := r2.frozen 0; obtain ⟨a2, c2, hv2⟩ := o2.slice; have el : ([] ++ S ++ [b]).length = n + 1 := (by simp [HN.out]); rw [el] at hv2; subst hv2)
    | fail)
  have r3 := r2.setCell 0 (.slice a2 (n + 1) c2)
  have hw2 : w.heap.size ≤ w2.heap.size := by have := f1.size; have := f2.size; have := HSZ.out; simp at *; omega
  have bt2 := own_bts o2
  have B2 : Below w.heap.size w w2 := HB0.out.trans (((f1.alloc _).trans f2).below HSZ.out)
  have b3 : But tb w (w2.setCell ⟨tb, 0, none⟩ (.slice a2 (n + 1) c2)) := (But.of B2).setCell 0 _
  have bt3 : Bts (fun b => w.heap.size ≤ b ∧ b < w2.heap.size) (w2.setCell ⟨tb, 0, none⟩ (.slice a2 (n + 1) c2)) (.slice a2 (n + 1) c2) ([] ++ S ++ [b]) := bt2.other fun b hb => Below.heap_setCell _ _ _ _ (by show b ≠ tb; omega)
  have sl3 := own_sl o2
  have hsz3 : (w2.setCell ⟨tb, 0, none⟩ (.slice a2 (n + 1) c2)).heap.size = w2.heap.size := by simp
  have hml : ([] ++ S ++ [b]).length = n + 1 := by simp [HN.out]
  have HML : Box' (n + 1 ≤ 4) := ⟨by omega⟩
  have HMT : Box' (tk 4 ([] ++ S ++ [b]) = P) := ⟨HTK.out 2⟩
  clear o1 o2 f1 f2 r2 k2 z2 bt2 B2 HB0 HSZ HTK HO0 HI c0 HR
  generalize [] ++ S ++ [b] = D at *
  have HM0 := Box'.mk hml
  generalize n + 1 = m0 at *
  generalize World.setCell w2 _ _ = w3 at *
  have HR3 := Box'.mk (show Row w3 tb 35 #[.slice a2 m0 c2] from r3)
  have HB3 := Box'.mk b3
  have HT3 := Box'.mk bt3
  generalize hK : w2.heap.size = K at *
  have HK : Box' (K ≤ w3.heap.size) := ⟨by omega⟩
  clear r3 b3 bt3 hml hK hsz3
  go_loopw [5] (fun u wr => ∃ (d : List UInt8) (l : List Int) (fu : Nat) (a : Option Addr) (m c : Nat), m ≤ 4 ∧ m ≤ fu ∧ Box' (d.length = m) ∧ Box' (Row wr tb 35 #[.slice a m c]) ∧ Box' (Bts (fun b => w.heap.size ≤ b ∧ b < K) wr (.slice a m c) d) ∧ Box' (Value.slice a m c = .slice none 0 0 ∨ ∃ ad m' c', Value.slice a m c = .slice (some ad) m' c') ∧ Box' (OwnR K wr u l) ∧ l.length + m ≤ 4 ∧ Box' (l ++ (tk fu d).1 = P.1 ∧ (tk fu d).2 = P.2) ∧ Box' (K ≤ wr.heap.size) ∧ Box' (But tb w wr)) (fun _ wr => match wr.cell? ⟨tb, 0, none⟩ with | some (.slice _ m _) => m | _ => 0)
  case atStart => exact ⟨D, [], 4, a2, m0, c2, HML.out, HML.out, HM0, HR3, HT3, ⟨sl3⟩, ⟨⟨rfl, .inl ⟨rfl, rfl⟩⟩⟩, by have := HML.out; simp; omega, ⟨by rw [HMT.out]; exact ⟨rfl, rfl⟩⟩, HK, HB3⟩
  case round =>
    clear HR3 HB3 HT3 HK HML HMT HM0 sl3
    obtain ⟨d, l, fu, a, m, c, hm4, hmf, HM, HR, HT, HS, HO, hlm, HE, HK, HB⟩ := hrel
    have c0 : wr.cell? ⟨tb, 0, none⟩ = some (.slice a m c) := by rw [HR.out.cell]; rfl
    have z0 := HR.out.frozen 0
    obtain ⟨a3, c3, hu⟩ := HO.out.slice
    subst hu
    by_cases h0 : 0 < m
    · have hdn : d ≠ [] := by intro h; have := HM.out; rw [h] at this; simp at this; omega
      have DS := Box'.mk (dec_next hdn)
      have NC := Box'.mk (next_any HBG'.out _ wr _ d HT.out (fun b hb => Nat.lt_of_lt_of_le hb.2 HK.out) (by rw [HM.out]; omega))
      have hk : (nxF d).2.1 ≤ d.length := DS.out.2.1
      obtain ⟨a', c', hsl, hi', hss⟩ := (HM.out ▸ HT.out : Bts (fun b => w.heap.size ≤ b ∧ b < K) wr (.slice a d.length c) d).behind hdn (k := (nxF d).2.1) hk (by rw [HM.out]; omega)
      rw [HM.out] at hsl hi' hk hss
      have hk1 := DS.out.1
      have HSS := Box'.mk hss
      clear hss
      have HC0 := Box'.mk c0
      have HLD : Box' ((d.drop (nxF d).2.1).length = m - (nxF d).2.1) := ⟨by rw [List.length_drop, HM.out]⟩
      obtain ⟨fv, rfl⟩ : ∃ fv, fu = fv + 1 := ⟨fu - 1, by omega⟩
      have HE2 : Box' (tk (fv + 1) d = if (nxF d).2.2 then ((nxF d).1 :: (tk fv (d.drop (nxF d).2.1)).1, (tk fv (d.drop (nxF d).2.1)).2) else ([], d)) := ⟨by rw [tk, if_neg hdn]⟩
      clear DS
      generalize nxF d = q at *
      obtain ⟨q1, q2, q3⟩ := q
      simp only at NC hk hsl hi' hk1 HE2 HLD HSS
      have HSL := Box'.mk hsl
      have HI' := Box'.mk hi'
      clear hsl hi' hdn
      cases q3 with
      | false =>
        have e := HE2.out
        rw [if_neg (by decide)] at e
        have HF : Box' (l = P.1 ∧ d = P.2) := ⟨by have h := HE.out; rw [e] at h; simpa using h⟩
        generalize l.length = ll at *
        clear HE HE2 e HSL HI' HLD
        go_wp2_with fail
        refine NC.out.mono ?_
        rintro e w4 ⟨rfl, b4⟩
        have HB4 := Box'.mk (HB.out.trans (But.of b4))
        have HR4 := Box'.mk (HR.out.below b4 HR.out.lt)
        have HO4 := Box'.mk (HO.out.below b4)
        have HT4 := Box'.mk (HT.out.below b4 (fun b hb => Nat.lt_of_lt_of_le hb.2 HK.out))
        have hK4 := Nat.le_trans HK.out b4.size
        clear NC HB HR HO HT b4 c0 z0
        go_wp2_with fail
        go_ret
        exact ⟨_, _, rfl, by rw [← HF.out.1]; exact HO4.out.less (by omega), HR4.out, ⟨by rw [← HF.out.2]; exact HT4.out.sub fun b hb => by omega, HS.out⟩, HB4.out⟩
      | true =>
        have e := HE2.out
        rw [if_pos rfl] at e
        have HF : Box' ((l ++ [q1]) ++ (tk fv (d.drop q2)).1 = P.1 ∧ (tk fv (d.drop q2)).2 = P.2) := ⟨by have h := HE.out; rw [e] at h; simpa using h⟩
        generalize hll : l.length = ll at *
        have HLL := Box'.mk hll
        clear HE HE2 e hll
        go_wp2_with fail
        refine NC.out.mono ?_
        rintro e w4 ⟨rfl, b4⟩
        have HB4 := Box'.mk (HB.out.trans (But.of b4))
        have HR4 := Box'.mk (HR.out.below b4 HR.out.lt)
        have HO4 := Box'.mk (HO.out.below b4)
        have HT4 := Box'.mk (HI'.out.below b4 (fun b hb => Nat.lt_of_lt_of_le hb.2 HK.out))
        have HK4 := Box'.mk (Nat.le_trans HK.out b4.size)
        clear NC HB HR HO HT HI' HK b4 c0 z0
        go_wp2_with (first
          | (refine wpList_appR rfl (.tmp 38) (.tmp 40) rfl K _ (Nat.le_trans HK4.out (by simp)) _ l rfl (HO4.out.alloc _) _ [q1] rfl (one_inR w4 q1) (by rw [HLL.out]; simp; omega) ?_; intro v5 w5 o5 f5; have r5 := f5.row (HR4.out.alloc _) (by decide); have k5 : w5.cell? ⟨tb, 0, none⟩ = some (.slice a m c) := by { rw [r5.cell]; rfl }; have z5 := r5.frozen 0)
          | (refine wpList_slice rfl 22 (.tmp 46) (some (.tmp 47)) none none rfl (.slice a' (m - q2) c') ?_ ?_; (exact HSL.out _))
          | fail)
        have F5 : FrR K w4 w5 := ((FrR.refl K w4).alloc _).trans f5
        have r6 := r5.setCell 0 (.slice a' (m - q2) c')
        have hne : tb ≠ w4.heap.size := by have := HR4.out.lt; omega
        have bt6 : Bts (fun b => w.heap.size ≤ b ∧ b < K) (w5.setCell ⟨tb, 0, none⟩ (.slice a' (m - q2) c')) (.slice a' (m - q2) c') (d.drop q2) := HT4.out.other fun b hb => by
          rw [Below.heap_setCell _ _ _ _ (by show b ≠ tb; omega)]
          exact F5.block b (Nat.lt_of_lt_of_le hb.2 HK4.out) (.inl hb.2)
        have o6 : OwnR K (w5.setCell ⟨tb, 0, none⟩ (.slice a' (m - q2) c')) v5 (l ++ [q1]) := o5.same fun g hg => Below.heap_setCell _ _ _ _ (own_neR o5 r5 (by decide) g hg)
        have b6 : But tb w (w5.setCell ⟨tb, 0, none⟩ (.slice a' (m - q2) c')) := by
          refine But.setCell ⟨F5.os.trans HB4.out.os, F5.tape.trans HB4.out.tape, F5.output.trans HB4.out.output, Nat.le_trans HB4.out.size F5.size, fun k hk hn => ?_⟩ 0 _
          exact (F5.block k (Nat.lt_of_lt_of_le hk HB4.out.size) (.inl (by omega))).trans (HB4.out.block k hk hn)
        have s6 : Value.slice a' (m - q2) c' = .slice none 0 0 ∨ ∃ ad m' c'', Value.slice a' (m - q2) c' = .slice (some ad) m' c'' := HSS.out
        refine ⟨⟨d.drop q2, l ++ [q1], fv, a', m - q2, c', by omega, by omega, HLD, ⟨r6⟩, ⟨bt6⟩, ⟨s6⟩, ⟨o6⟩, by rw [List.length_append, HLL.out]; simp; omega, HF, ⟨?_⟩, ⟨b6⟩⟩, ?_⟩
        · have := F5.size; have := HK4.out; simp; omega
        · rw [show (w5.setCell ⟨tb, 0, none⟩ (.slice a' (m - q2) c')).cell? ⟨tb, 0, none⟩ = some (.slice a' (m - q2) c') from by rw [r6.cell]; rfl, HC0.out]
          simp only
          omega
    · obtain rfl : m = 0 := by omega
      have hd0 : d = [] := List.eq_nil_of_length_eq_zero HM.out
      have HF : Box' (l = P.1 ∧ d = P.2) := ⟨by have h := HE.out; rw [hd0, tk_nil] at h; rw [hd0]; simpa using h⟩
      generalize l.length = ll at *
      have hK4 := HK.out
      clear HE hd0
      go_wp2_with fail
      go_ret
      exact ⟨_, _, rfl, by rw [← HF.out.1]; exact HO.out.less (by omega), HR.out, ⟨by rw [← HF.out.2]; exact HT.out.sub fun b hb => by omega, HS.out⟩, HB.out⟩
end Go.Proofs.YtfnlnbdlahckeaaDoor
