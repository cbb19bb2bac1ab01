/- What deflate.Deflate answers is read back, whole, by the reference's Inflate, is no longer than the stored stream, and is the same each time; what deflate.Match answers tells the bytes: for all bytes, with no condition. -/
import Derived.Test.YtcjfaahlchbcmaaK54
import Derived.Test.YtcjfaahlchbcmaaK05
import Derived.Test.YtcjfaahlchbcmaaK46
import Derived.Test.YtcjfaahlchbcmaaK52
import Derived.Test.YtcjfaahlchbcmaaRows
namespace Go.Proofs.Ytcjfaahlchbcmaa
open Go.RowKit Go.BigFrame
set_option linter.unusedVariables false
set_option linter.unusedSimpArgs false
theorem num_cons (x : UInt8) (r : List UInt8) : Gf.num (x :: r) = x.toNat + 256 * Gf.num r := rfl
theorem nbr_byte {A r : List UInt8} {x : UInt8} : nbr (A ++ x :: r) (8 * A.length) 8 = x.toNat := by
  unfold nbr
  have h := Gf.num_drop (A ++ x :: r) A.length
  rw [List.drop_left, num_cons] at h
  have hx := x.toNat_lt
  rw [show (2 : Nat) ^ (8 * A.length) = 256 ^ A.length by rw [Nat.pow_mul], ← h]
  omega
theorem nbr_two {A r : List UInt8} {x y : UInt8} : nbr (A ++ x :: y :: r) (8 * A.length) 16 = x.toNat + 256 * y.toNat := by
  unfold nbr
  have h := Gf.num_drop (A ++ x :: y :: r) A.length
  rw [List.drop_left, num_cons, num_cons] at h
  have hx := x.toNat_lt
  have hy := y.toNat_lt
  rw [show (2 : Nat) ^ (8 * A.length) = 256 ^ A.length by rw [Nat.pow_mul], ← h]
  omega
theorem puts_is {most : Nat} : ∀ (m A R out : List UInt8), out.length + m.length ≤ most → putsF (A ++ (m ++ R)) most m.length (8 * A.length) out = .ok (8 * (A.length + m.length), out ++ m)
  | [], A, R, out, _ => by simp [putsF]
  | x :: m, A, R, out, h => by
    rw [List.length_cons] at h ⊢
    have e := nbr_byte (A := A) (x := x) (r := m ++ R)
    rw [putsF, if_pos (by simp; omega), if_neg (show ¬ out.length = most by omega)]
    have e' : nbr (A ++ (x :: m ++ R)) (8 * A.length) 8 = x.toNat := e
    rw [e', UInt8.ofNat_toNat]
    have ih := puts_is (most := most) m (A ++ [x]) R (out ++ [x]) (by simp; omega)
    have e1 : A ++ [x] ++ (m ++ R) = A ++ (x :: m ++ R) := by simp
    rw [e1, List.length_append, List.length_singleton] at ih
    rw [show 8 * A.length + 8 = 8 * (A.length + 1) by omega, ih]
    simp
    omega
theorem sto_block {A m R out : List UInt8} {x : UInt8} {most : Nat} (hx : x.toNat < 2) (hm : m.length ≤ 65535) (ho : out.length + m.length ≤ most) :
    8 * A.length + 1 ≤ 8 * (A ++ (hdr x m.length ++ (m ++ R))).length ∧ nbr (A ++ (hdr x m.length ++ (m ++ R))) (8 * A.length) 1 = x.toNat ∧ blockF (A ++ (hdr x m.length ++ (m ++ R))) most (8 * A.length + 1) out = .ok (8 * (A.length + 5 + m.length), out ++ m) := by
  obtain ⟨n, hn⟩ : ∃ n, m.length = n := ⟨_, rfl⟩
  have e1 := nbr_byte (A := A) (x := x) (r := [UInt8.ofNat (n % 256), UInt8.ofNat (n / 256), UInt8.ofNat ((65535 - n) % 256), UInt8.ofNat ((65535 - n) / 256)] ++ (m ++ R))
  have e2 := nbr_two (A := A ++ [x]) (x := UInt8.ofNat (n % 256)) (y := UInt8.ofNat (n / 256)) (r := [UInt8.ofNat ((65535 - n) % 256), UInt8.ofNat ((65535 - n) / 256)] ++ (m ++ R))
  have e3 := nbr_two (A := A ++ [x, UInt8.ofNat (n % 256), UInt8.ofNat (n / 256)]) (x := UInt8.ofNat ((65535 - n) % 256)) (y := UInt8.ofNat ((65535 - n) / 256)) (r := m ++ R)
  have e4 := puts_is (most := most) m (A ++ hdr x n) R out ho
  have hB : A ++ (hdr x m.length ++ (m ++ R)) = A ++ hdr x n ++ (m ++ R) := by rw [hn]; simp
  have f1 : A ++ x :: ([UInt8.ofNat (n % 256), UInt8.ofNat (n / 256), UInt8.ofNat ((65535 - n) % 256), UInt8.ofNat ((65535 - n) / 256)] ++ (m ++ R)) = A ++ hdr x n ++ (m ++ R) := by simp [hdr]
  have f2 : A ++ [x] ++ UInt8.ofNat (n % 256) :: UInt8.ofNat (n / 256) :: ([UInt8.ofNat ((65535 - n) % 256), UInt8.ofNat ((65535 - n) / 256)] ++ (m ++ R)) = A ++ hdr x n ++ (m ++ R) := by simp [hdr]
  have f3 : A ++ [x, UInt8.ofNat (n % 256), UInt8.ofNat (n / 256)] ++ UInt8.ofNat ((65535 - n) % 256) :: UInt8.ofNat ((65535 - n) / 256) :: (m ++ R) = A ++ hdr x n ++ (m ++ R) := by simp [hdr]
  have hl5 : (hdr x n).length = 5 := rfl
  have hlen : (A ++ hdr x n ++ (m ++ R)).length = A.length + 5 + (n + R.length) := by rw [List.length_append, List.length_append, List.length_append, hl5, hn]
  rw [f1] at e1
  rw [f2] at e2
  rw [f3] at e3
  rw [hB]
  generalize A ++ hdr x n ++ (m ++ R) = b at *
  have u : ∀ k : Nat, k < 256 → (UInt8.ofNat k).toNat = k := fun k hk => UInt8.toNat_ofNat_of_lt' (by exact hk)
  rw [u _ (by omega), u _ (by omega), List.length_append, List.length_singleton] at e2
  rw [u _ (by omega), u _ (by omega), List.length_append] at e3
  have e3' : nbr b (8 * (A.length + 3)) 16 = (65535 - n) % 256 + 256 * ((65535 - n) / 256) := e3
  rw [List.length_append, hl5, hn] at e4
  have g1 : nbr b (8 * A.length) 1 = x.toNat := by
    unfold nbr at e1 ⊢
    omega
  have g2 : nbr b (8 * A.length + 1) 2 = 0 := by
    unfold nbr at e1 ⊢
    rw [Nat.pow_succ, ← Nat.div_div_eq_div_mul]
    omega
  refine ⟨by omega, g1, ?_⟩
  unfold blockF
  rw [if_pos (by omega), g2, if_pos rfl]
  unfold storedF
  have p1 : (8 * A.length + 1 + 2 + 7) / 8 * 8 = 8 * (A.length + 1) := by omega
  have p2 : 8 * (A.length + 1) + 16 = 8 * (A.length + 3) := by omega
  have p3 : 8 * (A.length + 1) + 32 = 8 * (A.length + 5) := by omega
  rw [p1, p2, p3, e2, e3', if_pos (by omega), if_pos (by omega), if_pos (by omega), show n % 256 + 256 * (n / 256) = n by omega, e4, hn]
theorem inf_blocks {b o : List UInt8} {q : Nat} (h : blocksF b 65536 (8 * b.length + 1) 0 [] = .ok (q, o)) : infR b 65536 = (o, (q + 7) / 8, 0) := by
  have e : blocksF b ((65536 : Int)).toNat (8 * b.length + 1) 0 [] = .ok (q, o) := h
  unfold infR
  rw [if_neg (by omega), e]
theorem sto_back {l : List UInt8} (hl : l.length ≤ 65536) : infR (stoF l) 65536 = (l, (stoF l).length, 0) := by
  obtain ⟨mo, hmo⟩ : ∃ mo : Nat, mo = 65536 := ⟨_, rfl⟩
  unfold stoF
  rw [if_neg (by omega)]
  split
  · rename_i h
    have s := sto_block (A := []) (m := l) (R := []) (out := []) (x := 1) (most := mo) (by decide) h (by rw [hmo]; simpa using hl)
    simp only [List.nil_append, List.append_nil, List.length_nil, Nat.mul_zero, Nat.zero_add] at s
    obtain ⟨s1, s2, s3⟩ := s
    have e : blocksF (hdr 1 l.length ++ l) 65536 (8 * (hdr 1 l.length ++ l).length + 1) 0 [] = .ok (8 * (5 + l.length), l) := by
      rw [hmo] at s3
      rw [blocksF, if_pos (by omega), s3]
      simp only [s2]
      rfl
    rw [inf_blocks e]
    have hl5 : (hdr 1 l.length ++ l).length = 5 + l.length := by rw [List.length_append]; rfl
    rw [hl5, show (8 * (5 + l.length) + 7) / 8 = 5 + l.length by omega]
  · rename_i h
    have h1 : (l.take 65535).length = 65535 := by rw [List.length_take]; omega
    have h2 : (l.drop 65535).length = 1 := by rw [List.length_drop]; omega
    have h3 : l.take 65535 ++ l.drop 65535 = l := List.take_append_drop _ _
    generalize l.take 65535 = m1 at *
    generalize l.drop 65535 = m2 at *
    have s := sto_block (A := []) (m := m1) (R := hdr 1 m2.length ++ m2) (out := []) (x := 0) (most := mo) (by decide) (by omega) (by rw [hmo, List.length_nil]; omega)
    have t := sto_block (A := hdr 0 m1.length ++ m1) (m := m2) (R := []) (out := m1) (x := 1) (most := mo) (by decide) (by omega) (by rw [hmo]; omega)
    simp only [List.nil_append, List.length_nil, Nat.mul_zero, Nat.zero_add] at s
    rw [List.append_nil] at t
    have hb : hdr 0 65535 ++ m1 ++ hdr 1 m2.length ++ m2 = hdr 0 m1.length ++ (m1 ++ (hdr 1 m2.length ++ m2)) := by rw [h1]; simp
    have hb2 : hdr 0 m1.length ++ m1 ++ (hdr 1 m2.length ++ m2) = hdr 0 m1.length ++ (m1 ++ (hdr 1 m2.length ++ m2)) := by simp
    rw [hb]
    rw [hb2] at t
    have hlen : (hdr 0 m1.length ++ (m1 ++ (hdr 1 m2.length ++ m2))).length = 5 + m1.length + (5 + m2.length) := by
      simp only [List.length_append]
      show 5 + (m1.length + (5 + m2.length)) = _
      omega
    have hA : (hdr 0 m1.length ++ m1).length = 5 + m1.length := by rw [List.length_append]; rfl
    rw [hA, h3] at t
    generalize hdr 0 m1.length ++ (m1 ++ (hdr 1 m2.length ++ m2)) = b at *
    obtain ⟨s1, s2, s3⟩ := s
    obtain ⟨t1, t2, t3⟩ := t
    have e : blocksF b 65536 (8 * b.length + 1) 0 [] = .ok (8 * (5 + m1.length + 5 + m2.length), l) := by
      rw [hmo] at s3 t3
      obtain ⟨f, hf⟩ : ∃ f, 8 * b.length = f + 1 := ⟨8 * b.length - 1, by omega⟩
      rw [blocksF, if_pos (by omega), s3]
      simp only [s2]
      rw [if_neg (by decide), hf, blocksF, if_pos t1, t3]
      simp only [t2]
      rfl
    rw [inf_blocks e, hlen]
    rw [show (8 * (5 + m1.length + 5 + m2.length) + 7) / 8 = 5 + m1.length + (5 + m2.length) by omega]
open Go.RowKit Go.BigFrame
set_option linter.unusedVariables false
set_option linter.unusedSimpArgs false
set_option maxRecDepth 100000 in
set_option maxHeartbeats 8000000 in
theorem back_walk (w : World) (vb : Value) (l d : List UInt8) (T : List Tok) (hl : l.length ≤ 65536) (hT : T.length ≤ 65536) (hb : InB w.heap.size w vb l) (hE : expF T [] = (l, 0)) (hd : d.length ≤ (stoF l).length)
    (hD : ∀ w1, Below w.heap.size w w1 → Calls Try.prog 13 #[vb] w1 fun e w' => ∃ u, e = .returned (.tuple #[u, .int .i64 0]) ∧ OwnB w1.heap.size w' u d ∧ Below w1.heap.size w1 w')
    (hM : ∀ w1, Below w.heap.size w w1 → Calls Try.prog 14 #[vb] w1 fun e w' => ∃ v, e = .returned (.tuple #[v, .int .i64 0]) ∧ OwnT w1.heap.size w' v T ∧ Below w1.heap.size w1 w')
    (hI : ∀ w1 v, Bts (· < w1.heap.size) w1 v d → Calls Try.prog 15 #[v, .int .i64 65536] w1 fun e w' => ∃ u, e = .returned (.tuple #[u, .int .i64 (d.length : Int), .int .i64 0]) ∧ OwnB w1.heap.size w' u l ∧ Below w1.heap.size w1 w') :
    Calls Try.prog 4 #[vb] w fun e w' => e = .returned (.bool true) ∧ Below w.heap.size w w' := by
  have hs : stoE l = 0 := if_neg (by omega)
  have HI := Box'.mk hb
  have HD := Box'.mk hD
  have HM := Box'.mk hM
  have HN := Box'.mk hI
  have HEX := Box'.mk hE
  have HTL := Box'.mk hT
  have hsl := sto_len l
  have HZ : Box' (∀ w1, Below w.heap.size w w1 → Calls Try.prog 10 #[vb] w1 fun e w' => ∃ u, e = .returned (.tuple #[u, .int .i64 0]) ∧ OwnB w1.heap.size w' u (stoF l) ∧ Below w1.heap.size w1 w') := ⟨fun w1 b1 => by
    have := refStored_any vb l (by omega) w1 ((hb.below b1 (Nat.le_refl _)).up b1.size)
    rwa [hs] at this⟩
  obtain ⟨ba, bc, hvb, hbc⟩ := hb.slice
  subst hvb
  have HL := Box'.mk (show l.length = l.length from rfl)
  clear hb hD hM hI hE hT hs hbc
  have hd0 : d.length ≤ 100000 := by omega
  generalize hln : l.length = ln at *
  generalize hdl : d.length = dl at *
  generalize hzl : (stoF l).length = zl at *
  have HDL := Box'.mk hdl
  have HZL := Box'.mk hzl
  clear hln hdl hzl HL
  go_enter Try.func4, Try.ntmps4
  go_wp2_with fail
  refine (HD.out w (Below.refl _ _)).mono ?_
  rintro e w1 ⟨u1, rfl, o1, b1⟩
  have B1 := Box'.mk b1
  have O1 := Box'.mk o1
  have e2 := HD.out w1 b1
  obtain ⟨sa, sc, hu1⟩ := o1.slice
  rw [HDL.out] at hu1
  subst hu1
  clear o1 b1 HD
  go_wp2_with fail
  refine e2.mono ?_
  rintro e w2 ⟨u2, rfl, o2, b2⟩
  have B2 : Box' (Below w.heap.size w w2) := ⟨B1.out.trans (b2.mono B1.out.size)⟩
  have O1' := Box'.mk (O1.out.below b2)
  have O2 := Box'.mk o2
  have e3 := HM.out w2 B2.out
  clear e2 o2 b2 B1 O1 HM
  go_wp2_with fail
  refine e3.mono ?_
  rintro e w3 ⟨v3, rfl, o3, b3⟩
  have B3 : Box' (Below w.heap.size w w3) := ⟨B2.out.trans (b3.mono B2.out.size)⟩
  have P1 := Box'.mk (O1'.out.below b3)
  have P2 := Box'.mk (O2.out.below b3)
  have P3 := Box'.mk o3
  have e4 := HN.out w3 _ P1.out.bts
  clear e3 o3 b3 B2 O1' O2 HN
  go_wp2_with fail
  refine e4.mono ?_
  rintro e w4 ⟨u4, rfl, o4, b4⟩
  have B4 : Box' (Below w.heap.size w w4) := ⟨B3.out.trans (b4.mono B3.out.size)⟩
  have Q1 := Box'.mk (P1.out.below b4)
  have Q2 := Box'.mk (P2.out.below b4)
  have Q3 := Box'.mk (P3.out.below b4)
  have Q4 := Box'.mk o4
  have e5 := refExpand_any v3 T (by have := HTL.out; omega) w4 Q3.out.toks
  rw [HEX.out] at e5
  clear e4 o4 b4 B3 P1 P2 P3 HEX HTL
  go_wp2_with fail
  refine e5.mono ?_
  rintro e w5 ⟨u5, rfl, o5, b5⟩
  have B5 : Box' (Below w.heap.size w w5) := ⟨B4.out.trans (b5.mono B4.out.size)⟩
  have R1 := Box'.mk (Q1.out.below b5)
  have R2 := Box'.mk (Q2.out.below b5)
  have R4 := Box'.mk (Q4.out.below b5)
  have R5 := Box'.mk o5
  have e6 := HZ.out w5 B5.out
  clear e5 o5 b5 B4 Q1 Q2 Q3 Q4 HZ
  go_wp2_with fail
  refine e6.mono ?_
  rintro e w6 ⟨u6, rfl, o6, b6⟩
  have B6 : Box' (Below w.heap.size w w6) := ⟨B5.out.trans (b6.mono B5.out.size)⟩
  have S1 := Box'.mk (R1.out.below b6)
  have S2 := Box'.mk (R2.out.below b6)
  have S4 := Box'.mk (R4.out.below b6)
  have S5 := Box'.mk (R5.out.below b6)
  obtain ⟨za, zc, hu6⟩ := o6.slice
  rw [HZL.out] at hu6
  subst hu6
  have S : Box' (∀ w7, Below w6.heap.size w6 w7 → Calls Try.prog 11 #[u4, .slice ba ln bc] w7 (fun e w' => e = .returned (.bool true) ∧ w' = w7) ∧ Calls Try.prog 11 #[u5, .slice ba ln bc] w7 (fun e w' => e = .returned (.bool true) ∧ w' = w7) ∧ Calls Try.prog 11 #[.slice sa dl sc, u2] w7 (fun e w' => e = .returned (.bool true) ∧ w' = w7)) := ⟨fun w7 b7 => by
    have hi := (HI.out.below (B6.out.trans (b7.mono B6.out.size)) (Nat.le_refl _)).bts
    have s1 := refSame_any _ _ _ _ _ _ _ (S4.out.below b7).bts hi
    have s2 := refSame_any _ _ _ _ _ _ _ (S5.out.below b7).bts hi
    have s3 := refSame_any _ _ _ _ _ _ _ (S1.out.below b7).bts (S2.out.below b7).bts
    rw [decide_eq_true rfl] at s1 s2 s3
    exact ⟨s1, s2, s3⟩⟩
  have ha := anchored_any w6
  clear e6 o6 b6 B5 R1 R2 R4 R5 S1 S2 S4 S5 HI HDL HZL
  go_wp2_with fail
  refine ha.mono ?_
  rintro e w7 ⟨rfl, b7⟩
  have B7 := Box'.mk (B6.out.trans (b7.mono B6.out.size))
  obtain ⟨s1, s2, s3⟩ := S.out w7 b7
  have S2 := Box'.mk s2
  have S3 := Box'.mk s3
  clear S ha b7 B6 s2 s3
  go_wp2_with fail
  refine s1.mono ?_
  rintro e w8 ⟨rfl, rfl⟩
  clear s1
  go_wp2_with fail
  refine S2.out.mono ?_
  rintro e w9 ⟨rfl, rfl⟩
  clear S2
  go_wp2_with fail
  refine S3.out.mono ?_
  rintro e w10 ⟨rfl, rfl⟩
  clear S3
  go_wp2_with fail
  go_ret
  exact ⟨rfl, B7.out⟩
set_option maxRecDepth 100000 in
set_option maxHeartbeats 8000000 in
theorem back_long (w : World) (vb : Value) (l : List UInt8) (hl : 65536 < l.length) (hm : l.length ≤ 140737488351232) (hb : InB w.heap.size w vb l) :
    Calls Try.prog 4 #[vb] w fun e w' => e = .returned (.bool true) ∧ Below w.heap.size w w' := by
  have HD := Box'.mk (deflate_long w vb l hl (by omega) hb)
  obtain ⟨ba, bc, hvb, hbc⟩ := hb.slice
  subst hvb
  have HM := Box'.mk (match_long w ba l.length bc hl (by omega))
  have ha := Box'.mk (anchored_any w)
  clear hb hbc
  generalize l.length = ln at *
  go_enter Try.func4, Try.ntmps4
  go_wp2_with fail
  refine HD.out.mono ?_
  rintro e w1 ⟨rfl, rfl⟩
  go_wp2_with fail
  refine HD.out.mono ?_
  rintro e w2 ⟨rfl, rfl⟩
  clear HD
  go_wp2_with fail
  refine HM.out.mono ?_
  rintro e w3 ⟨rfl, rfl⟩
  clear HM
  go_wp2_with fail
  refine ha.out.mono ?_
  rintro e w4 ⟨rfl, b4⟩
  clear ha
  have B4 := Box'.mk b4
  clear b4
  go_wp2_with fail
  go_ret
  exact ⟨rfl, B4.out⟩
open Go.RowKit Go.BigFrame
set_option linter.unusedVariables false
set_option linter.unusedSimpArgs false
theorem bsz_tot2 : ∀ (D : List Bt), (∀ x ∈ D, Gf.may x = true) → ((Gf.tot D : Nat) : Int) = bsz D
  | [], _ => rfl
  | x :: r, h => by
    have h1 := may_bd (h x List.mem_cons_self)
    have h2 := bsz_tot2 r fun y hy => h y (List.mem_cons_of_mem _ hy)
    rw [Gf.tot, bsz]
    omega
def dB (l : List UInt8) : List Bt := if zO l < zF l then dO l else dF l
def zB (l : List UInt8) : Int := if zO l < zF l then zO l else zF l
def ansF (l : List UInt8) : List UInt8 := if min ((stoF l).length : Int) 65536 < zB l then stoF l else Gf.byt (Gf.wid (dB l)) (Gf.val (dB l))
theorem dB_is {l : List UInt8} (hl : l.length ≤ 65536) : (∀ x ∈ dB l, Gf.may x = true) ∧ zB l = (bsz (dB l) + 7) / 8 ∧ infR (Gf.byt (Gf.wid (dB l)) (Gf.val (dB l))) 65536 = (l, Gf.wid (dB l), 0) := by
  have hT : (matF l).length ≤ 65536 := Nat.le_trans (mat_len l) hl
  have he := matF_tells l hl
  unfold dB zB
  by_cases h : zO l < zF l
  · simp only [if_pos h]
    exact ⟨own_may hT (mat_ok l), rfl, own_back hT (mat_ok l) he⟩
  · simp only [if_neg h]
    exact ⟨fix_may (mat_ok l), rfl, fix_back (mat_ok l) he⟩
theorem ans_is {l : List UInt8} (hl : l.length ≤ 65536) : (ansF l).length ≤ (stoF l).length ∧ infR (ansF l) 65536 = (l, (ansF l).length, 0) ∧ (¬ min ((stoF l).length : Int) 65536 < zB l → Gf.cntE (dB l) = 0) := by
  obtain ⟨h1, h2, h3⟩ := dB_is hl
  have h4 := bsz_tot2 _ h1
  unfold ansF
  by_cases h : min ((stoF l).length : Int) 65536 < zB l
  · rw [if_pos h]
    exact ⟨Nat.le_refl _, sto_back hl, fun h' => absurd h h'⟩
  · rw [if_neg h, Gf.byt_len]
    have h5 : Gf.wid (dB l) = (Gf.tot (dB l) + 7) / 8 := rfl
    refine ⟨by omega, h3, fun _ => ?_⟩
    unfold Gf.cntE
    rw [if_pos h1, if_pos (by omega)]
theorem deflate_ans (w : World) (vb : Value) (l : List UInt8) (hl : l.length ≤ 65536) (hb : InB w.heap.size w vb l) :
    Calls Try.prog 13 #[vb] w fun e w' => ∃ u, e = .returned (.tuple #[u, .int .i64 0]) ∧ OwnB w.heap.size w' u (ansF l) ∧ Below w.heap.size w w' := by
  have ha := ans_is hl
  have hd : DefR w.heap.size = DefR w.heap.size := rfl
  refine (deflate_is w vb l hl hb).mono fun e w' ⟨u, E, he, hr, b⟩ => ?_
  have hr' : DefR w.heap.size w' (stoF l) (zB l) (dB l) u E := hr
  by_cases h : min ((stoF l).length : Int) 65536 < zB l
  · have e0 : ansF l = stoF l := if_pos h
    rw [e0]
    rcases hr' with ⟨_, x2, x3⟩ | ⟨x1, _⟩
    · rw [x2] at he
      exact ⟨u, he, x3, b⟩
    · exact absurd h (by omega)
  · have e0 : ansF l = Gf.byt (Gf.wid (dB l)) (Gf.val (dB l)) := if_neg h
    have hc := ha.2.2 h
    rw [e0]
    rcases hr' with ⟨x1, _⟩ | ⟨_, x2, w1, x3, ⟨_, g, rfl, hg, hrow⟩ | ⟨x4, _⟩⟩
    · exact absurd x1 h
    · rw [x2, hc] at he
      have hw := wid_le hc
      exact ⟨_, he, row_own hrow (Nat.le_trans x3 hg) (Gf.byt_len _ _) (by omega), b⟩
    · exact absurd hc x4
theorem back_of (hI : ∀ (w1 : World) (v : Value) (b : List UInt8), b.length ≤ 140737488355328 → Bts (· < w1.heap.size) w1 v b → Calls Try.prog 15 #[v, .int .i64 65536] w1 (IEnds w1 (infR b 65536)))
    (w : World) (vb : Value) (l : List UInt8) (hm : l.length ≤ 140737488351232) (hb : InB w.heap.size w vb l) :
    Calls Try.prog 4 #[vb] w fun e w' => e = .returned (.bool true) ∧ Below w.heap.size w w' := by
  by_cases hl : l.length ≤ 65536
  · obtain ⟨a1, a2, _⟩ := ans_is hl
    have hsl := sto_len l
    refine back_walk w vb l (ansF l) (matF l) hl (Nat.le_trans (mat_len l) hl) hb (matF_tells l hl) a1 (fun w1 b1 => deflate_ans w1 vb l hl ((hb.below b1 (Nat.le_refl _)).up b1.size)) (fun w1 b1 => match_any w1 vb l hl ((hb.below b1 (Nat.le_refl _)).up b1.size).bts) fun w1 v h => ?_
    have := hI w1 v (ansF l) (by omega) h
    rw [a2] at this
    exact this
  · exact back_long w vb l (by omega) hm hb
open Go.RowKit Go.BigFrame
theorem back_any (w : World) (vb : Value) (l : List UInt8) (hm : l.length ≤ 140737488351232) (hb : InB w.heap.size w vb l) :
    Calls Try.prog 4 #[vb] w fun e w' => e = .returned (.bool true) ∧ Below w.heap.size w w' :=
  back_of (fun w1 v b hl h => refInflate_any v b 65536 hl w1 h) w vb l hm hb
end Go.Proofs.Ytcjfaahlchbcmaa
namespace Go.Proofs.Ytcjfaahlchbcmaa.deflateBack
open Go.ChangeShapes Go.WideShapes Go.ChangeAt Go.RowKit
set_option linter.unusedVariables false
set_option maxRecDepth 100000 in
theorem lifted (os : Os) (started : os.Started) (H : Type) (enc : TypeId × Value → H) :
    ReturnsInHanded {} Try.checked os 4 .any (Rows.deflateBackSpec.pre6 enc Try.prog Try.f4 Rows.deflateBackRow.domain false) (Rows.deflateBackSpec.post enc Try.prog Try.f4 false true false false) := by
  refine returnsInHanded_of_change_shaped (C := Try.checked) own started (by kernel_rfl) Try.func4
    (ChangeSpec.witness6 (enc := enc) (C := Try.checked) false ⟨#[], #[.slice none 0 0], []⟩ 8 (by kernel_rfl) (by kernel_rfl) (by kernel_rfl) (by kernel_rfl)) ?_
  intro W base args ds gs before hval0 hW _ hwt0 _ _
  have hval : ∀ (j : Nat) t v, Try.f4.params[j]? = some t → args[j]? = some v → Value.okWide Try.prog W .any base t v := hval0
  have hW' := hW
  obtain ⟨p, q, hA0, hV, rfl, hfz, hnd⟩ := hW
  have hA : DataW.TrodAll enc Try.prog W 0 (fun _ => true) true Try.f4.params.toList args.toList ds p := hA0
  rw [Try.params4] at hA hval
  obtain ⟨v1, vs1, d1, ds1, p1, q1, hargs, rfl, rfl, h1, r1⟩ := trodAll_cons hA
  obtain ⟨rfl, rfl, rfl⟩ := trodAll_nil r1
  obtain rfl : args = #[v1] := by cases args; simp_all
  obtain ⟨rfl, rfl⟩ := trodVars_none hV
  have lt1 : ∀ x ∈ p1, x.block < W.heap.size := by obtain ⟨m, hm⟩ := h1; exact DataW.trod_lt m _ _ _ hm
  have hwt : (DataW.weightsEach Try.prog [23] ([d1] ++ [])).all (· ≤ reachBytes) = true := hwt0
  have hall : ∀ y, y ∈ DataW.weights Try.prog 23 d1 → y ≤ 140737488351232 := by
    simp only [List.append_nil, DataW.weightsEach, List.all_eq_true, decide_eq_true_eq] at hwt
    exact fun y hy => hwt y hy
  obtain ⟨b, hb, hbn⟩ : ∃ b, InB W.heap.size W v1 b ∧ b.length ≤ 140737488351232 := by
    obtain ⟨m, hm⟩ := h1
    have hok := hval 0 23 v1 rfl rfl
    unfold Value.okWide at hok
    rw [Try.underlying23] at hok
    have hc1 : v1.cells.toList = [v1] := by
      unfold Cell.okWide at hok
      rw [Try.underlying23] at hok
      cases v1 <;> first | rfl | (simp only [Cell.ok, Try.underlying23] at hok)
    obtain ⟨b, hb, _⟩ := open_bytes hok (hc1 ▸ hm)
    obtain ⟨a, c, e, _⟩ := hb.slice
    refine ⟨b, hb, ?_⟩
    rw [hc1, e] at hm
    exact weight_bytes hm hall
  clear hA0 hval0
  refine (back_any W v1 b hbn hb).mono fun e W' ⟨he, bel⟩ => ?_
  subst he
  exact ⟨_, rfl, _, _, _, [], _, [], hW', trodAll_mk1 (shut_bool Try.underlying4 _), (trodAll_cons_mk (Below.trod laidOut (by kernel_rfl) (of_decide_eq_true (by kernel_rfl)) h1 bel lt1) trodAll_mk0), rfl, bel.frame _, fun h => by cases h⟩
theorem over : Rows.deflateBackRow.holds Try.pinned (OpenSpec.ofChange Rows.deflateBackSpec) :=
  OpenClaim.holds_of_wide 4 Try.f4 rfl rfl rfl rfl rfl rfl rfl ⟨rfl, rfl, rfl, rfl, rfl⟩ rfl rfl rfl rfl rfl (by kernel_rfl) Try.func4 (by kernel_rfl)
    (of_decide_eq_true (by kernel_rfl)) (by unfold Func.isWrapper; first | (rw [if_pos (by decide +kernel)]; kernel_rfl) | (rw [if_neg (by decide +kernel)]; exact ⟨rfl, rfl⟩))
    (fun os started H enc _ => lifted os started H enc)
end Go.Proofs.Ytcjfaahlchbcmaa.deflateBack
namespace Go.Proofs.Ytcjfaahlchbcmaa
theorem deflateBack_holds : Rows.DeflateBackSaid := deflateBack.over
#print axioms deflateBack_holds
end Go.Proofs.Ytcjfaahlchbcmaa
