/- What Seal and Open refuse; the document's way to compare bytes; and that opening turns sealing back. -/
import Derived.Test.YtmolhljgmaoflaaDoorOr
namespace Go.Proofs.YtmolhljgmaoflaaDoor
open Go.RowKit Go.BigFrame

set_option maxRecDepth 100000 in
set_option maxHeartbeats 1000000 in
theorem seal_bad (key : List UInt8) (an : Option Addr) (n cn : Nat) (ab : Option Addr) (b cb : Nat) (ap : Option Addr) (p cp : Nat) (hn : n ≤ maxLen) (hb : b ≤ maxLen) (w : World) (hf : Gf.fault n b (p : Int) ≠ 0) :
    Calls Tryd.prog 8 #[.agg (ag key), .slice an n cn, .slice ab b cb, .slice ap p cp] w fun e w' => e = .returned (.tuple #[.slice none 0 0, .int .i64 (Gf.fault n b (p : Int))]) ∧ Below w.heap.size w w' := by
  have hfa := fun w => fault_any an n cn ab b cb (p : Int) hn hb w
  generalize Gf.fault n b (p : Int) = c at *
  unfold maxLen at hn hb
  have hc : (c == 0) = false := by rw [beq_eq_false_iff_ne]; exact hf
  go_enter Tryd.func8, Tryd.ntmps8
  go_wp2_with fail
  refine (hfa _).mono ?_
  rintro e w0 ⟨rfl, rfl⟩
  go_wp2
  go_ret2
  exact ⟨rfl, (Below.refl _ _).alloc (Nat.le_refl _) _⟩

set_option maxRecDepth 100000 in
set_option maxHeartbeats 1000000 in
theorem open_bad (key : List UInt8) (an : Option Addr) (n cn : Nat) (ab : Option Addr) (b cb : Nat) (ap : Option Addr) (p cp : Nat) (hn : n ≤ maxLen) (hb : b ≤ maxLen) (hp : p ≤ maxLen) (w : World) (hf : Gf.fault n b ((p : Int) - 16) ≠ 0) :
    Calls Tryd.prog 15 #[.agg (ag key), .slice an n cn, .slice ab b cb, .slice ap p cp] w fun e w' => e = .returned (.tuple #[.slice none 0 0, .int .i64 (Gf.fault n b ((p : Int) - 16))]) ∧ Below w.heap.size w w' := by
  have hfa := fun w => fault_any an n cn ab b cb ((p : Int) - 16) hn hb w
  generalize Gf.fault n b ((p : Int) - 16) = c at *
  unfold maxLen at hn hb hp
  have hc : (c == 0) = false := by rw [beq_eq_false_iff_ne]; exact hf
  go_enter Tryd.func15, Tryd.ntmps15
  go_wp2_with fail
  refine (hfa _).mono ?_
  rintro e w0 ⟨rfl, rfl⟩
  go_wp2
  go_ret2
  exact ⟨rfl, (Below.refl _ _).alloc (Nat.le_refl _) _⟩

set_option maxRecDepth 100000 in
set_option maxHeartbeats 1000000 in
theorem open_short (key : List UInt8) (an : Option Addr) (n cn : Nat) (ab : Option Addr) (b cb : Nat) (ap : Option Addr) (p cp : Nat) (hn : n ≤ maxLen) (hb : b ≤ maxLen) (hp : p < 16) (w : World) (hf : Gf.fault n b ((p : Int) - 16) = 0) :
    Calls Tryd.prog 15 #[.agg (ag key), .slice an n cn, .slice ab b cb, .slice ap p cp] w fun e w' => e = .returned (.tuple #[.slice none 0 0, .int .i64 7]) ∧ Below w.heap.size w w' := by
  have hfa := fun w => fault_any an n cn ab b cb ((p : Int) - 16) hn hb w
  rw [hf] at hfa
  clear hf
  have hs : (p : Int) - 16 < 0 := by omega
  go_enter Tryd.func15, Tryd.ntmps15
  go_wp2_with fail
  refine (hfa _).mono ?_
  rintro e w0 ⟨rfl, rfl⟩
  go_wp2
  go_ret2
  exact ⟨rfl, (Below.refl _ _).alloc (Nat.le_refl _) _⟩

/-! Opening turns sealing back. -/
theorem Gf.bxor_cancel (a o : List UInt8) (ha : a.length = 16) (ho : o.length = 16) : Gf.bxor (Gf.bxor a o) o = a := Gf.bxor_bxor a o ha ho
theorem Gf.padded_back (l pad : List UInt8) : Gf.padded (Gf.padded l pad l.length) pad l.length = l := by
  have hl : (Gf.padded l pad l.length).length = l.length := by simp [Gf.padded]
  apply List.ext_getElem (by simp [Gf.padded])
  intro i h1 h2
  have h3 : (Gf.padded l pad l.length).getD i 0 = Gf.bx (l.getD i 0) (pad.getD i 0) := by simp [Gf.padded, h2]
  have h4 : (Gf.padded (Gf.padded l pad l.length) pad l.length)[i] = Gf.bx ((Gf.padded l pad l.length).getD i 0) (pad.getD i 0) := by simp [Gf.padded]
  rw [h4, h3, Gf.bx_assoc, Gf.bx_self, Gf.bx_zero]
  simp [h2]
theorem Gf.turn_back (F H : List UInt8 → List UInt8) (key l0 : List UInt8) (hF : ∀ b, (F b).length = 16) (hH : ∀ b, b.length = 16 → H (F b) = b) (i : Nat) (o l : List UInt8) (ho : o.length = 16) :
    Gf.turnFrom H key l0 i o (Gf.turnFrom F key l0 i o l).1 = (l, (Gf.turnFrom F key l0 i o l).2) := by
  induction i, o, l using Gf.turnFrom_ind (l0 := l0) with
  | case1 i o l h16 ih =>
    have lT : (l.take 16).length = 16 := by rw [List.length_take]; omega
    have lO := Gf.bxor_len o (Gf.ell l0 (2 + Gf.ntz i))
    have ih' := ih lO
    have hlen := (Gf.turnFrom_len F key l0 (i + 1) (Gf.bxor o (Gf.ell l0 (2 + Gf.ntz i))) (l.drop 16) lO).1
    rw [Gf.turnFrom_eq F key l0 i o l, dif_pos h16]
    generalize hX : Gf.turnFrom F key l0 (i + 1) (Gf.bxor o (Gf.ell l0 (2 + Gf.ntz i))) (l.drop 16) = X at *
    generalize hO : Gf.bxor o (Gf.ell l0 (2 + Gf.ntz i)) = O at *
    have lY : (Gf.bxor (F (Gf.bxor (l.take 16) O)) O).length = 16 := Gf.bxor_len _ _
    rw [Gf.turnFrom_eq]
    have hL : 16 ≤ (Gf.bxor (F (Gf.bxor (l.take 16) O)) O ++ X.1).length := by rw [List.length_append, lY]; omega
    simp only
    rw [dif_pos hL, hO]
    have e1 : (Gf.bxor (F (Gf.bxor (l.take 16) O)) O ++ X.1).take 16 = Gf.bxor (F (Gf.bxor (l.take 16) O)) O := List.take_left' lY
    have e2 : (Gf.bxor (F (Gf.bxor (l.take 16) O)) O ++ X.1).drop 16 = X.1 := List.drop_left' lY
    rw [e1, e2, ih', Gf.bxor_cancel _ _ (hF _) lO, hH _ (Gf.bxor_len _ _), Gf.bxor_cancel _ _ lT lO, List.take_append_drop]
  | case2 i o l h16 hp =>
    rw [Gf.turnFrom_eq F key l0 i o l, dif_neg h16, if_pos hp]
    have hl : (Gf.padded l (Gf.encrypt key (Gf.bxor o (Gf.ell l0 0))) l.length).length = l.length := by simp [Gf.padded]
    simp only
    rw [Gf.turnFrom_eq, dif_neg (by rw [hl]; exact h16), if_pos (by rw [hl]; exact hp), hl, Gf.padded_back]
  | case3 i o l h16 hp =>
    rw [Gf.turnFrom_eq F key l0 i o l, dif_neg h16, if_neg hp]
    have hl : l = [] := List.eq_nil_of_length_eq_zero (by omega)
    rw [Gf.turnFrom_eq, dif_neg (by simp), if_neg (by simp), hl]
/-- What was sealed is opened as what it was. -/
theorem Gf.open_sealed (key n b p : List UInt8) : (Gf.unturned key n (Gf.sealed key n b p)).1 = p ∧ Gf.openTag key n b (Gf.sealed key n b p) = (Gf.sealed key n b p).drop p.length := by
  have hlen := Gf.sealed_len key n b p
  have h1 := (Gf.turnFrom_len (Gf.encrypt key) key (Gf.star key) 1 (Gf.begin key n) p (Gf.begin_len _ _)).1
  have hu : Gf.unturned key n (Gf.sealed key n b p) = (p, (Gf.turnFrom (Gf.encrypt key) key (Gf.star key) 1 (Gf.begin key n) p).2) := by
    unfold Gf.unturned
    rw [hlen, Nat.add_sub_cancel]
    have : (Gf.sealed key n b p).take p.length = (Gf.turnFrom (Gf.encrypt key) key (Gf.star key) 1 (Gf.begin key n) p).1 := by unfold Gf.sealed; rw [← h1, List.take_left]
    rw [this]
    exact Gf.turn_back _ _ key _ (fun b => Gf.encrypt_len key b) (fun b hb => Gf.decrypt_encrypt key b hb) 1 _ p (Gf.begin_len _ _)
  refine ⟨by rw [hu], ?_⟩
  unfold Gf.openTag
  rw [hu]
  have : (Gf.sealed key n b p).drop p.length = Gf.tag key (Gf.star key) (Gf.turnFrom (Gf.encrypt key) key (Gf.star key) 1 (Gf.begin key n) p).2 p b := by unfold Gf.sealed; rw [← h1, List.drop_left]
  rw [this]
/-- What opens is sealed as the very bytes. -/
theorem Gf.seal_opened (key n b s : List UInt8) (ht : Gf.openTag key n b s = s.drop (s.length - 16)) : Gf.sealed key n b (Gf.unturned key n s).1 = s := by
  have hb := Gf.turn_back (Gf.decrypt key) (Gf.encrypt key) key (Gf.star key) (fun b => Gf.decrypt_len key b) (fun b hb => Gf.encrypt_decrypt key b hb) 1 (Gf.begin key n) (s.take (s.length - 16)) (Gf.begin_len _ _)
  unfold Gf.sealed
  have hu : Gf.unturned key n s = Gf.turnFrom (Gf.decrypt key) key (Gf.star key) 1 (Gf.begin key n) (s.take (s.length - 16)) := rfl
  rw [hu, hb]
  unfold Gf.openTag at ht
  rw [hu] at ht
  simp only
  rw [ht, List.take_append_drop]
end Go.Proofs.YtmolhljgmaoflaaDoor
