/- The walk of the reference's way to compare bytes. -/
import Derived.Test.YtmolhljgmaoflaaDoorOs
import Derived.Laws.IdiomStrings
import Derived.Laws.BytesArg
namespace Go.Proofs.YtmolhljgmaoflaaDoor
open Go.RowKit Go.BigFrame

theorem conv_bts {S : Nat → Prop} {w : World} {v : Value} {l : List UInt8} (h : Bts S w v l) : (convert 24 9 v).run Tryd.prog w = .ok (.string ⟨l.toArray⟩) w := by
  obtain ⟨a, c, rfl, _, h3⟩ := h
  rcases h3 with rfl | ⟨b, o, rfl, _, hr⟩
  · cases a with
    | none => exact run_convert_bytes_nil w 24 5 Tryd.underlying24 Tryd.underlying5 _ c 9 Tryd.underlying9
    | some a => exact run_convert_bytes_back w 24 9 5 a c [] Tryd.underlying24 Tryd.underlying5 Tryd.underlying9 (fun j hj => absurd hj (by simp))
  · refine run_convert_bytes_back w 24 9 5 ⟨b, o, none⟩ c l Tryd.underlying24 Tryd.underlying5 Tryd.underlying9 (fun j hj => ?_)
    rw [Addr.add_mid]
    exact hr j _ (by simp [hj]; rfl)
theorem convert_op {P : Program} {op : Oper} {a : Act} (s t : TypeId) (x : Operand) (ho : op.op = .convert s t x) (v : Value) (w : World) (h : (convert s t (a.eval x)).run P w = .ok v w) : (execOp a.eval op).run P w = .ok (.value v) w := by
  unfold execOp
  simp only [ho, Sem.run_bind, h, Result.andThen_ok, Sem.run_pure]
theorem bytes_eq (a b : List UInt8) : ((⟨a.toArray⟩ : ByteArray).toList == (⟨b.toArray⟩ : ByteArray).toList) = decide (a = b) := by
  rw [ByteArray.toList_mk, ByteArray.toList_mk, Bool.eq_iff_iff, beq_iff_eq, decide_eq_true_eq]

set_option maxRecDepth 100000 in
set_option maxHeartbeats 1000000 in
theorem refSame_any (S1 S2 : Nat → Prop) (va vb : Value) (la lb : List UInt8) (w : World) (ha : Bts S1 w va la) (hb : Bts S2 w vb lb) :
    Calls Tryd.prog 10 #[va, vb] w fun e w' => e = .returned (.bool (decide (la = lb))) ∧ w' = w := by
  have h1 := conv_bts ha
  have h2 := conv_bts hb
  have h3 := bytes_eq la lb
  generalize decide (la = lb) = r at *
  obtain ⟨s1, hs1⟩ : ∃ s1, (⟨la.toArray⟩ : ByteArray) = s1 := ⟨_, rfl⟩
  obtain ⟨s2, hs2⟩ : ∃ s2, (⟨lb.toArray⟩ : ByteArray) = s2 := ⟨_, rfl⟩
  rw [hs1] at h1 h3
  rw [hs2] at h2 h3
  clear hs1 hs2 ha hb
  go_enter Tryd.func10, Tryd.ntmps10
  go_wp2_with (first
    | (refine wpList_val rfl _ (convert_op 24 9 (.tmp 5) rfl _ _ h1) ?_)
    | (refine wpList_val rfl _ (convert_op 24 9 (.tmp 7) rfl _ _ h2) ?_)
    | fail)
  go_ret
  exact ⟨by rw [← h3]; rfl, rfl⟩

/-! One sealed nothing that the standard fixes. -/
def Gf.keyA : List UInt8 := [0, 1, 2, 3, 4, 5, 6, 7, 8, 9, 10, 11, 12, 13, 14, 15]
def Gf.nonA : List UInt8 := [0xbb, 0xaa, 0x99, 0x88, 0x77, 0x66, 0x55, 0x44, 0x33, 0x22, 0x11, 0x00]
def Gf.outA : List UInt8 := [0x78, 0x54, 0x07, 0xbf, 0xff, 0xc8, 0xad, 0x9e, 0xdc, 0xc5, 0x52, 0x0a, 0xc9, 0x11, 0x1e, 0xe6]
theorem Gf.encrypt_lit (key b : List UInt8) : Gf.encrypt key b = Gf.encTo Gf.sboxLit (Gf.keys Gf.sboxLit key) b 10 := by unfold Gf.encrypt; rw [Gf.sbox_lit]
theorem Gf.sealed_nil (key n : List UInt8) : Gf.sealed key n [] [] = Gf.bxor (Gf.encrypt key (Gf.bxor (Gf.bxor (Gf.zeros 16) (Gf.begin key n)) (Gf.dblk (Gf.encrypt key (Gf.zeros 16))))) (Gf.zeros 16) := by
  unfold Gf.sealed Gf.tag
  rw [Gf.turnFrom_eq, dif_neg (by simp), if_neg (by simp), Gf.sumFrom_eq, dif_neg (by simp), if_neg (by simp), Gf.digFrom_eq, dif_neg (by simp), if_neg (by simp)]
  rfl
set_option maxRecDepth 100000 in
theorem Gf.anchorA : Gf.sealed Gf.keyA Gf.nonA [] [] = Gf.outA := by
  rw [Gf.sealed_nil]
  unfold Gf.begin
  simp only [Gf.encrypt_lit]
  decide +kernel
theorem Gf.keyA_eq : Gf.fill (Gf.zeros 16) (fun i => UInt8.ofNat i) 16 = Gf.keyA := by decide +kernel

set_option maxRecDepth 100000 in
set_option maxHeartbeats 2000000 in
theorem anchored_any (w : World) (ht : Tab w) : Calls Tryd.prog 14 #[] w fun e w' => e = .returned (.bool true) ∧ Below w.heap.size w w' := by
  have HA := Box'.mk Gf.anchorA
  have HK := Box'.mk Gf.keyA_eq
  have lK : Gf.keyA.length = 16 := rfl
  have lN : Gf.nonA.length = 12 := rfl
  have lO : Gf.outA.length = 16 := rfl
  have eN : Box' (ag Gf.nonA = #[.int .u8 187, .int .u8 170, .int .u8 153, .int .u8 136, .int .u8 119, .int .u8 102, .int .u8 85, .int .u8 68, .int .u8 51, .int .u8 34, .int .u8 17, .int .u8 0]) := ⟨by kernel_rfl⟩
  have eO : Box' (ag Gf.outA = #[.int .u8 120, .int .u8 84, .int .u8 7, .int .u8 191, .int .u8 255, .int .u8 200, .int .u8 173, .int .u8 158, .int .u8 220, .int .u8 197, .int .u8 82, .int .u8 10, .int .u8 201, .int .u8 17, .int .u8 30, .int .u8 230]) := ⟨by kernel_rfl⟩
  generalize Gf.outA = OA at *
  generalize Gf.keyA = KA at *
  generalize Gf.nonA = NA at *
  have hlt := ht.lt
  go_enter Tryd.func14, Tryd.ntmps14
  go_wp2
  go_loopw [2] (fun i wr => ∃ k : Nat, k ≤ 16 ∧ i = .int .i64 k ∧ Row wr w.heap.size 23 (ag (Gf.fill (Gf.zeros 16) (fun i => UInt8.ofNat i) k)) ∧ Below w.heap.size w wr) (fun i _ => 16 - (intOf i).toNat)
  case atStart => exact ⟨0, by omega, rfl, Row.new _ _ _, (Below.refl _ _).alloc (Nat.le_refl _) _⟩
  case round =>
    obtain ⟨k, hk, rfl, h1, hbl⟩ := hrel
    by_cases hk16 : k < 16
    · have c1 := h1.byte (k := k) (by rw [Gf.fill_len]; exact hk16)
      have f1 := h1.frozen k
      have E : Box' (Gf.fill (Gf.zeros 16) (fun i => UInt8.ofNat i) (k + 1) = (Gf.fill (Gf.zeros 16) (fun i => UInt8.ofNat i) k).set k (UInt8.ofNat k)) := ⟨rfl⟩
      have hu : Box' ((UInt8.ofNat k).toNat = k) := ⟨UInt8.toNat_ofNat_of_lt' (by show k < 256; omega)⟩
      go_wp2
      refine ⟨⟨k + 1, by omega, by go_num, ?_, hbl.setCell (by simp) _⟩, by simp [intOf]; omega⟩
      have := h1.setByte k (UInt8.ofNat k)
      rw [hu.out] at this
      rw [E.out]; exact this
    · have hk' : k = 16 := by omega
      subst hk'
      rw [HK.out] at h1
      have hz := h1.lt
      have ht1 := ht.below hbl hlt
      clear HK
      go_wp2_with (first
        | (refine wpList_load_row rfl 23 (.tmp 1) rfl _ rfl _ _ (h1.alloc _) _ Tryd.underlying23 rfl 16 Tryd.info23 (by rw [ag_size]; exact lK) ?_)
        | fail)
      rw [← eN.out]
      have hbn : Below wr.heap.size wr (wr.alloc (.cells (ag NA) 5)) := (Below.refl _ _).alloc (Nat.le_refl _) _
      have hzn : (wr.alloc (.cells (ag NA) 5)).heap.size = wr.heap.size + 1 := by simp
      have rn : Row (wr.alloc (.cells (ag NA) 5)) wr.heap.size 5 (ag NA) := Row.new _ _ _
      have hbw : Below w.heap.size w (wr.alloc (.cells (ag NA) 5)) := hbl.trans (hbn.mono (by omega))
      have bn : Bts (· < (wr.alloc (.cells (ag NA) 5)).heap.size) (wr.alloc (.cells (ag NA) 5)) (.slice (some ⟨wr.heap.size, 0, none⟩) 12 12) NA := ⟨_, _, by rw [lN], by omega, .inr ⟨_, 0, rfl, by show wr.heap.size < _; omega, fun j u hu => by rw [Nat.zero_add, rn.cell]; simpa [ag] using hu⟩⟩
      have be : Bts (· < (wr.alloc (.cells (ag NA) 5)).heap.size) (wr.alloc (.cells (ag NA) 5)) (.slice none 0 0) [] := ⟨none, 0, rfl, by simp, .inl rfl⟩
      have ht2 := ht.below hbw hlt
      refine (seal_ok KA lK _ _ _ NA [] [] (by omega) (by omega) (by simp) (by simp) _ ht2 bn be be).mono ?_
      rintro e w1 ⟨g, rfl, hbu, hgl, hb1⟩
      rw [HA.out] at hbu
      have hb2 : Below w.heap.size w w1 := hbw.trans (hb1.mono (by omega))
      have hgz : g < w1.heap.size := (World.ownsRow.lt hbu g rfl).2
      clear hb1 bn be rn hbw hbn ht2 h1 hbl ht1 HA eN
      simp only [List.length_nil, Nat.zero_add]
      simp only [List.length_nil, Nat.zero_add] at hbu
      have bs : Bts (· < w1.heap.size) w1 (.slice (some ⟨g, 0, none⟩) 16 16) OA := by
        have := hbu.bts (S := (· < w1.heap.size)) hgz (by omega)
        rw [lO] at this
        exact this
      have ro : Row (w1.alloc (.cells (ag OA) 5)) w1.heap.size 5 (ag OA) := Row.new _ _ _
      have bo : Bts (· < (w1.alloc (.cells (ag OA) 5)).heap.size) (w1.alloc (.cells (ag OA) 5)) (.slice (some ⟨w1.heap.size, 0, none⟩) 16 16) OA := ⟨_, _, by rw [lO], by omega, .inr ⟨_, 0, rfl, by simp, fun j u hu => by rw [Nat.zero_add, ro.cell]; simpa [ag] using hu⟩⟩
      have bs2 : Bts (· < w1.heap.size) (w1.alloc (.cells (ag OA) 5)) (.slice (some ⟨g, 0, none⟩) 16 16) OA := bs.below ((Below.refl _ _).alloc (Nat.le_refl _) _) (fun b h => h)
      have hb3 := hb2.alloc (o := .cells (ag OA) 5) hb2.size
      have hsm := refSame_any _ _ _ _ OA OA (w1.alloc (.cells (ag OA) 5)) bs2 bo
      rw [eO.out] at hsm hb3
      clear bs bo bs2 ro hbu eO
      rw [decide_eq_true rfl] at hsm
      go_wp2_with fail
      refine hsm.mono ?_
      rintro e w2 ⟨rfl, rfl⟩
      go_wp2
      go_ret
      exact ⟨rfl, hb3⟩
end Go.Proofs.YtmolhljgmaoflaaDoor

/- The walk of OcbOne. -/
namespace Go.Proofs.YtmolhljgmaoflaaDoor
open Go.RowKit Go.BigFrame

/-- What Open answers, whatever is handed in. -/
theorem open_any (key : List UInt8) (hkey : key.length = 16) (vn vb vs : Value) (ln lb ls : List UInt8) (mn : ln.length ≤ maxLen) (mb : lb.length ≤ maxLen) (ms : ls.length ≤ maxLen) (w : World) (ht : Tab w)
    (hn : Bts (· < w.heap.size) w vn ln) (hb : Bts (· < w.heap.size) w vb lb) (hs : Bts (· < w.heap.size) w vs ls) :
    Calls Tryd.prog 15 #[.agg (ag key), vn, vb, vs] w fun e w' => Below w.heap.size w w' ∧
      ((∃ c : Int, c ≠ 0 ∧ e = .returned (.tuple #[.slice none 0 0, .int .i64 c])) ∨
       (0 < ln.length ∧ ln.length ≤ 15 ∧ lb.length ≤ 65536 ∧ 16 ≤ ls.length ∧ ls.length ≤ 65552 ∧ Gf.openTag key ln lb ls = ls.drop (ls.length - 16) ∧
        ∃ g, e = .returned (.tuple #[.slice (some ⟨g, 0, none⟩) (ls.length - 16) (ls.length - 16 + 16), .int .i64 0]) ∧ Buf w' g (ls.length - 16 + 16) (Gf.unturned key ln ls).1 ∧ w.heap.size ≤ g)) := by
  have hnc := hn
  have hbc := hb
  have hsc := hs
  obtain ⟨an, cn, rfl, _, _⟩ := hnc
  obtain ⟨ab, cb, rfl, _, _⟩ := hbc
  obtain ⟨as0, cs, rfl, _, _⟩ := hsc
  by_cases hf : Gf.fault ln.length lb.length ((ls.length : Int) - 16) = 0
  · have hc : 0 < ln.length ∧ ln.length ≤ 15 ∧ lb.length ≤ 65536 ∧ ls.length ≤ 65552 := by
      unfold Gf.fault at hf
      by_cases h1 : ln.length < 1 ∨ 15 < ln.length
      · rw [if_pos h1] at hf; omega
      · rw [if_neg h1] at hf
        by_cases h2 : 65536 < (ls.length : Int) - 16 ∨ 65536 < lb.length
        · rw [if_pos h2] at hf; omega
        · omega
    by_cases h16 : 16 ≤ ls.length
    · refine (open_ok key hkey _ _ _ ln lb ls hc.1 hc.2.1 hc.2.2.1 h16 hc.2.2.2 w ht hn hb hs).mono ?_
      rintro e w' ⟨h1, h2, h3⟩
      refine ⟨h1, ?_⟩
      by_cases hd : Gf.openTag key ln lb ls = ls.drop (ls.length - 16)
      · exact .inr ⟨hc.1, hc.2.1, hc.2.2.1, h16, hc.2.2.2, hd, h2 hd⟩
      · exact .inl ⟨20, by decide, h3 hd⟩
    · exact (open_short key an _ cn ab _ cb as0 _ cs mn mb (by omega) w hf).mono fun e w' h => ⟨h.2, .inl ⟨7, by decide, h.1⟩⟩
  · exact (open_bad key an _ cn ab _ cb as0 _ cs mn mb ms w hf).mono fun e w' h => ⟨h.2, .inl ⟨_, hf, h.1⟩⟩

/-- A key, a nonce and bytes beside, as one value. -/
def cas (key : List UInt8) (vn vb : Value) : Array Value := ag key ++ #[vn, vb]
theorem cas_size (key : List UInt8) (vn vb : Value) : (cas key vn vb).size = key.length + 2 := by simp [cas, ag_size]
theorem cas_range {w : World} {N : Nat} {key : List UInt8} {vn vb : Value} (h : Row w N 26 (cas key vn vb)) : w.rangeAt N 0 (key.map B) := fun j u hu => by
  have hj : j < key.length := by
    have := (List.getElem?_eq_some_iff.1 hu).1
    simpa using this
  rw [Nat.zero_add, h.cell, cas, Array.getElem?_append_left (by rw [ag_size]; exact hj)]
  simpa [ag] using hu
theorem cas_16 {w : World} {N : Nat} {key : List UInt8} {vn vb : Value} (hk : key.length = 16) (h : Row w N 26 (cas key vn vb)) : w.cell? ⟨N, 16, none⟩ = some vn := by
  rw [h.cell, cas, Array.getElem?_append_right (by rw [ag_size]; omega), ag_size, hk]; rfl
theorem cas_17 {w : World} {N : Nat} {key : List UInt8} {vn vb : Value} (hk : key.length = 16) (h : Row w N 26 (cas key vn vb)) : w.cell? ⟨N, 17, none⟩ = some vb := by
  rw [h.cell, cas, Array.getElem?_append_right (by rw [ag_size]; omega), ag_size, hk]; rfl

set_option maxRecDepth 100000 in
set_option maxHeartbeats 2000000 in
theorem one_any (key : List UInt8) (hkey : key.length = 16) (vn vb vs : Value) (ln lb ls : List UInt8) (mn : ln.length ≤ maxLen) (mb : lb.length ≤ maxLen) (ms : ls.length ≤ maxLen) (w : World) (ht : Tab w)
    (hn : Bts (· < w.heap.size) w vn ln) (hb : Bts (· < w.heap.size) w vb lb) (hs : Bts (· < w.heap.size) w vs ls) :
    Calls Tryd.prog 6 #[.agg (cas key vn vb), vs] w fun e w' => e = .returned (.bool true) ∧ Below w.heap.size w w' := by
  have hlt := ht.lt
  have b0 : Below w.heap.size w (w.alloc (.cells (cas key vn vb) 26)) := (Below.refl _ _).alloc (Nat.le_refl _) _
  have r0 : Row (w.alloc (.cells (cas key vn vb) 26)) w.heap.size 26 (cas key vn vb) := Row.new _ _ _
  have hz0 : (w.alloc (.cells (cas key vn vb) 26)).heap.size = w.heap.size + 1 := by simp
  have t0 := ht.below b0 hlt
  have up : ∀ {W : World} {v : Value} {l : List UInt8}, Below w.heap.size w W → Bts (· < w.heap.size) w v l → Bts (· < W.heap.size) W v l := fun hW h => h.keep fun b hb => ⟨Nat.lt_of_lt_of_le hb hW.size, hW.block b hb⟩
  have hO := open_any key hkey vn vb vs ln lb ls mn mb ms (w.alloc (.cells (cas key vn vb) 26)) t0 (up b0 hn) (up b0 hb) (up b0 hs)
  have g16 := cas_range r0
  have c16 := cas_16 hkey r0
  have c17 := cas_17 hkey r0
  have UP := Box'.mk @up
  have HO := Box'.mk hO
  clear up hO
  go_enter Tryd.func6, Tryd.ntmps6
  go_wp2_with (first
    | (refine wpList_load_midB rfl 23 (.tmp 10) rfl _ _ rfl _ g16 _ Tryd.underlying23 rfl 16 Tryd.info23 hkey ?_)
    | fail)
  refine HO.out.mono ?_
  clear HO
  rintro e w1 ⟨hb1, hres⟩
  have b1 : Below w.heap.size w w1 := b0.trans (hb1.mono (by omega))
  have r1 : Row w1 w.heap.size 26 (cas key vn vb) := r0.below hb1 (by omega)
  have t1 := ht.below b1 hlt
  have hz1 : w.heap.size + 1 ≤ w1.heap.size := by have := hb1.size; omega
  clear g16 c16 c17 r0 t0 hb1
  rcases hres with ⟨c, hc, rfl⟩ | ⟨h1, h2, h3, h4, h5, h6, g, rfl, hbu, hg⟩
  · have hc' : (c == 0) = false := by rw [beq_eq_false_iff_ne]; exact hc
    have hA := anchored_any w1 t1
    clear b0
    go_wp2_with fail
    refine hA.mono ?_
    rintro e w2 ⟨rfl, hb2⟩
    have b2 : Below w.heap.size w w2 := b1.trans (hb2.mono (by omega))
    clear hb2
    go_wp2
    go_ret
    exact ⟨rfl, b2⟩
  · have hP := Gf.seal_opened key ln lb ls h6
    have lP : (Gf.unturned key ln ls).1.length = ls.length - 16 := by
      have := Gf.sealed_len key ln lb (Gf.unturned key ln ls).1
      rw [hP] at this
      omega
    generalize (Gf.unturned key ln ls).1 = P at *
    have hgz : g < w1.heap.size := (World.ownsRow.lt hbu g rfl).2
    have bP : Bts (· < w1.heap.size) w1 (.slice (some ⟨g, 0, none⟩) (ls.length - 16) (ls.length - 16 + 16)) P := by
      have := hbu.bts (S := (· < w1.heap.size)) hgz (by omega)
      rw [lP] at this
      exact this
    have hS := seal_ok key hkey vn vb _ ln lb P h1 h2 h3 (by omega) w1 t1 (UP.out b1 hn) (UP.out b1 hb) bP
    rw [hP] at hS
    have HS := Box'.mk hS
    have g16 := cas_range r1
    have c16 := cas_16 hkey r1
    have c17 := cas_17 hkey r1
    clear hS bP hbu b0 h6 hP
    have hsz : Box' (ls.length = (ls.length - 16) + 16) := ⟨by omega⟩
    generalize ls.length - 16 = sz at *
    go_wp2_with (first
      | (refine wpList_load_midB rfl 23 (.tmp 29) rfl _ _ rfl _ g16 _ Tryd.underlying23 rfl 16 Tryd.info23 hkey ?_)
      | fail)
    refine HS.out.mono ?_
    clear HS
    rintro e w2 ⟨g2, rfl, hbu2, hg2, hb2⟩
    have b2 : Below w.heap.size w w2 := b1.trans (hb2.mono (by omega))
    have t2 := ht.below b2 hlt
    have hA := anchored_any w2 t2
    have hg2z : g2 < w2.heap.size := (World.ownsRow.lt hbu2 g2 rfl).2
    clear g16 c16 c17 r1 t1 hb2
    go_wp2_with fail
    refine hA.mono ?_
    rintro e w3 ⟨rfl, hb3⟩
    have b3 : Below w.heap.size w w3 := b2.trans (hb3.mono (by have := b2.size; omega))
    have hbu3 := hbu2.same (w' := w3) (hb3.block g2 hg2z)
    clear hA hb3 hbu2 t2
    have bS : Bts (fun _ => True) w3 (.slice (some ⟨g2, 0, none⟩) (sz + 16) (sz + 16)) ls := by
      rw [lP] at hbu3
      have := hbu3.bts (S := fun _ => True) trivial (by rw [hsz.out]; exact Nat.le_refl _)
      rw [hsz.out] at this
      exact this
    have hsm := refSame_any _ _ _ _ ls ls w3 bS (UP.out b3 hs)
    rw [decide_eq_true rfl] at hsm
    have HSM := Box'.mk hsm
    clear hsm bS hbu3
    go_wp2_with fail
    refine HSM.out.mono ?_
    rintro e w4 ⟨rfl, rfl⟩
    go_wp2
    go_ret
    exact ⟨rfl, b3⟩
end Go.Proofs.YtmolhljgmaoflaaDoor
