/- The mathematics of forms: what bytes are decoded to, one by one and at once; what numbers are encoded to. -/
namespace Go.Proofs.YtfnlnbdlahckeaaDoor
set_option linter.unusedVariables false
set_option linter.unusedSimpArgs false

/-- How many bytes the forms have that a byte begins; 0: none. -/
def sz (a : Nat) : Nat := if a < 128 then 1 else if a < 194 then 0 else if a < 224 then 2 else if a < 240 then 3 else if a < 245 then 4 else 0
/-- The least and the greatest byte that may stand second. -/
def lo (a : Nat) : Nat := if a = 224 then 160 else if a = 240 then 144 else 128
def hi (a : Nat) : Nat := if a = 237 then 159 else if a = 244 then 143 else 191
/-- Whether a byte may stand at a place. -/
def fol (a k b : Nat) : Bool := if k = 1 then decide (lo a ≤ b ∧ b ≤ hi a) else decide (128 ≤ b ∧ b ≤ 191)
def bse (a : Nat) : Nat := if a < 224 then a - 192 else if a < 240 then a - 224 else a - 240
def val : Nat → List UInt8 → Nat
  | c, [] => c
  | c, x :: t => val (64 * c + (x.toNat - 128)) t
def okF : Nat → Nat → List UInt8 → Bool
  | _, _, [] => true
  | a, k, x :: t => fol a k x.toNat && okF a (k + 1) t
/-- What one more byte tells, and what is kept. -/
def put0 (b : UInt8) : List Int × List UInt8 := if sz b.toNat = 0 then ([65533], []) else if sz b.toNat = 1 then ([(b.toNat : Int)], []) else ([], [b])
def putF : List UInt8 → UInt8 → List Int × List UInt8
  | [], b => put0 b
  | a :: t, b => if fol a.toNat (t.length + 1) b.toNat then (if t.length + 2 < sz a.toNat then ([], a :: (t ++ [b])) else ([(val (bse a.toNat) (t ++ [b]) : Int)], [])) else (65533 :: (put0 b).1, (put0 b).2)
theorem putF_cons (a : UInt8) (t : List UInt8) (b : UInt8) : putF (a :: t) b = if fol a.toNat (t.length + 1) b.toNat then (if t.length + 2 < sz a.toNat then ([], a :: (t ++ [b])) else ([(val (bse a.toNat) (t ++ [b]) : Int)], [])) else (65533 :: (put0 b).1, (put0 b).2) := rfl
def finF : List UInt8 → List Int
  | [] => []
  | _ => [65533]
def decF : List UInt8 → List UInt8 → List Int
  | S, [] => finF S
  | S, b :: t => (putF S b).1 ++ decF (putF S b).2 t
/-- What is kept begins a form, and is not the whole of it. -/
def Gd : List UInt8 → Prop
  | [] => True
  | a :: t => 2 ≤ sz a.toNat ∧ t.length + 1 < sz a.toNat ∧ okF a.toNat 1 t = true
theorem sz_le (a : Nat) : sz a ≤ 4 := by unfold sz; repeat (split <;> try omega)
theorem Gd.len {S : List UInt8} (h : Gd S) : S.length ≤ 3 := by
  cases S with
  | nil => simp
  | cons a t => have := sz_le a.toNat; have := h.2.1; simp; omega
theorem okF_append (a : Nat) : ∀ (t : List UInt8) (k : Nat) (b : UInt8), okF a k (t ++ [b]) = (okF a k t && fol a (k + t.length) b.toNat)
  | [], k, b => by simp [okF]
  | x :: t, k, b => by simp only [List.cons_append, okF, okF_append a t, List.length_cons, Bool.and_assoc, show k + 1 + t.length = k + (t.length + 1) by omega]
theorem okF_take (a : Nat) : ∀ (t : List UInt8) (k n : Nat), okF a k t = true → okF a k (t.take n) = true
  | [], k, n, h => by simp [okF]
  | x :: t, k, 0, h => by simp [okF]
  | x :: t, k, n + 1, h => by
    simp only [okF, Bool.and_eq_true] at h
    simp only [List.take_succ_cons, okF, Bool.and_eq_true]
    exact ⟨h.1, okF_take a t _ n h.2⟩
theorem put0_good (b : UInt8) : Gd (put0 b).2 := by
  unfold put0
  split
  · trivial
  · split
    · trivial
    · refine ⟨by omega, ?_, rfl⟩
      simp; omega
theorem putF_good {S : List UInt8} (h : Gd S) (b : UInt8) : Gd (putF S b).2 := by
  cases S with
  | nil => exact put0_good b
  | cons a t =>
    rw [putF_cons]
    split
    · rename_i hf
      split
      · rename_i hl
        refine ⟨h.1, by simp; omega, ?_⟩
        rw [okF_append, h.2.2, show 1 + t.length = t.length + 1 by omega, hf]; rfl
      · trivial
    · exact put0_good b
theorem put0_len (b : UInt8) : (put0 b).1.length ≤ 1 := by unfold put0; split <;> (try split) <;> simp
/-- At most as many are told as bytes came. -/
theorem putF_len (S : List UInt8) (b : UInt8) : (putF S b).1.length + (putF S b).2.length ≤ S.length + 1 := by
  cases S with
  | nil => show (put0 b).1.length + (put0 b).2.length ≤ _; unfold put0; split <;> (try split) <;> simp
  | cons a t =>
    show ((if fol a.toNat (t.length + 1) b.toNat then _ else _ : List Int × List UInt8)).1.length + ((if fol a.toNat (t.length + 1) b.toNat then _ else _ : List Int × List UInt8)).2.length ≤ _
    split
    · split <;> simp
    · unfold put0
      split <;> (try split) <;> simp
theorem decF_len : ∀ (b S : List UInt8), (decF S b).length ≤ S.length + b.length
  | [], S => by cases S <;> simp [decF, finF]
  | x :: b, S => by
    have h1 := putF_len S x
    have h2 := decF_len b (putF S x).2
    simp only [decF, List.length_append, List.length_cons]
    omega
/-- The reference's begins. -/
def bg : List UInt8 → Int × Nat
  | [] => (0, 0)
  | a :: t => if a.toNat < 128 then (if t = [] then ((a.toNat : Int), 1) else (0, 0)) else if sz a.toNat < t.length + 1 then (0, 0) else if okF a.toNat 1 t then ((val (bse a.toNat) t : Int), sz a.toNat) else (0, 0)
theorem bg_cons (a : UInt8) (t : List UInt8) : bg (a :: t) = if a.toNat < 128 then (if t = [] then ((a.toNat : Int), 1) else (0, 0)) else if sz a.toNat < t.length + 1 then (0, 0) else if okF a.toNat 1 t then ((val (bse a.toNat) t : Int), sz a.toNat) else (0, 0) := rfl
/-- The reference's next, from so many bytes on. -/
def nx (b : List UInt8) : Nat → Nat → Int × Nat × Bool
  | n, 0 => (65533, max n 1, false)
  | n, f + 1 => if (bg (b.take (n + 1))).2 = 0 then (65533, max n 1, true) else if (bg (b.take (n + 1))).2 = n + 1 then ((bg (b.take (n + 1))).1, n + 1, true) else nx b (n + 1) f
def nxF (b : List UInt8) : Int × Nat × Bool := nx b 0 b.length
theorem sz_one {a : Nat} (h : a < 128) : sz a = 1 := by unfold sz; rw [if_pos h]
theorem sz_ge {a : Nat} (h : ¬ a < 128) : sz a ≠ 1 := by unfold sz; repeat (split <;> try omega)
/-- What is kept is passed over. -/
theorem nx_skip {S : List UInt8} (h : Gd S) (r : List UInt8) : ∀ k, k ≤ S.length → nx (S ++ r) 0 (S ++ r).length = nx (S ++ r) k ((S ++ r).length - k)
  | 0, _ => rfl
  | k + 1, hk => by
    rw [nx_skip h r k (by omega)]
    cases S with
    | nil => simp at hk
    | cons a t =>
      simp only [List.length_cons] at hk
      have e : (a :: t ++ r).length - k = ((a :: t ++ r).length - (k + 1)) + 1 := by simp; omega
      rw [e]
      have et : (a :: t ++ r).take (k + 1) = a :: t.take k := by
        rw [List.cons_append, List.take_succ_cons, List.take_append_of_le_length (by omega)]
      have hb : bg (a :: t.take k) = ((val (bse a.toNat) (t.take k) : Int), sz a.toNat) := by
        have h1 := h.1
        have h2 := h.2.1
        have hn : ¬ a.toNat < 128 := fun hh => by rw [sz_one hh] at h1; omega
        rw [bg_cons, if_neg hn, if_neg (by rw [List.length_take]; omega), if_pos (okF_take _ _ _ _ h.2.2)]
      rw [nx, et, hb]
      have h1 := h.1
      have h2 := h.2.1
      rw [if_neg (by simp only; omega), if_neg (by simp only; omega)]
theorem nxF_end {S : List UInt8} (h : Gd S) (hS : S ≠ []) : nxF S = (65533, S.length, false) := by
  have := nx_skip h [] S.length (Nat.le_refl _)
  rw [List.append_nil, Nat.sub_self] at this
  unfold nxF
  rw [this, nx]
  have : 0 < S.length := List.length_pos_iff.2 hS
  rw [Nat.max_eq_left (by omega)]
theorem nxF_first (b : UInt8) (r : List UInt8) : nxF (b :: r) = if sz b.toNat = 0 then (65533, 1, true) else if sz b.toNat = 1 then ((b.toNat : Int), 1, true) else nx (b :: r) 1 r.length := by
  unfold nxF
  rw [List.length_cons, nx]
  have e : (b :: r).take (0 + 1) = [b] := by simp
  rw [e]
  by_cases h1 : b.toNat < 128
  · have hs := sz_one h1
    have : bg [b] = ((b.toNat : Int), 1) := by rw [bg_cons, if_pos h1, if_pos rfl]
    rw [this, if_neg (by simp), if_pos rfl, hs, if_neg (by omega), if_pos rfl]
  · have hs := sz_ge h1
    by_cases h0 : sz b.toNat = 0
    · have : bg [b] = (0, 0) := by rw [bg_cons, if_neg h1, if_pos (by simp [h0])]
      rw [this, if_pos rfl, if_pos h0]; rfl
    · have : bg [b] = ((val (bse b.toNat) [] : Int), sz b.toNat) := by rw [bg_cons, if_neg h1, if_neg (by simp; omega), if_pos (by simp [okF])]
      rw [this, if_neg h0, if_neg (by simp only; omega), if_neg h0, if_neg hs]
theorem nxF_next {a : UInt8} {t : List UInt8} (h : Gd (a :: t)) (b : UInt8) (r : List UInt8) :
    nxF (a :: t ++ b :: r) = if fol a.toNat (t.length + 1) b.toNat then (if t.length + 2 < sz a.toNat then nx (a :: t ++ b :: r) (t.length + 2) r.length else ((val (bse a.toNat) (t ++ [b]) : Int), t.length + 2, true)) else (65533, t.length + 1, true) := by
  have hk := nx_skip h (b :: r) (t.length + 1) (by simp)
  unfold nxF
  rw [hk]
  have e : (a :: t ++ b :: r).length - (t.length + 1) = r.length + 1 := by simp only [List.length_append, List.length_cons]; omega
  rw [e, nx]
  have et : (a :: t ++ b :: r).take (t.length + 1 + 1) = a :: (t ++ [b]) := by
    rw [List.cons_append, List.take_succ_cons, List.take_append, List.take_of_length_le (by omega)]
    simp
  rw [et]
  have h1 := h.1
  have h2 := h.2.1
  have hn : ¬ a.toNat < 128 := fun hh => by rw [sz_one hh] at h1; omega
  cases hf : fol a.toNat (t.length + 1) b.toNat with
  | false =>
    have : bg (a :: (t ++ [b])) = (0, 0) := by
      rw [bg_cons, if_neg hn, if_neg (by simp; omega), if_neg (by rw [okF_append, show 1 + t.length = t.length + 1 by omega, hf]; simp)]
    rw [this, if_pos rfl, if_neg (by simp), Nat.max_eq_left (by omega)]
  | true =>
    have : bg (a :: (t ++ [b])) = ((val (bse a.toNat) (t ++ [b]) : Int), sz a.toNat) := by
      rw [bg_cons, if_neg hn, if_neg (by simp; omega), if_pos (by rw [okF_append, show 1 + t.length = t.length + 1 by omega, hf, h.2.2]; rfl)]
    rw [this, if_pos rfl, if_neg (by simp only; omega)]
    by_cases hl : t.length + 2 < sz a.toNat
    · rw [if_pos hl, if_neg (by simp only; omega)]
    · rw [if_neg hl, if_pos (by simp only; omega)]
/-- At once from what is kept: the first that is told. -/
theorem dec_step : ∀ (r S : List UInt8), Gd S → S ++ r ≠ [] → 1 ≤ (nxF (S ++ r)).2.1 ∧ (nxF (S ++ r)).2.1 ≤ (S ++ r).length ∧ decF S r = (nxF (S ++ r)).1 :: decF [] ((S ++ r).drop (nxF (S ++ r)).2.1)
  | [], S, h, hne => by
    rw [List.append_nil] at hne ⊢
    rw [nxF_end h hne]
    have : 0 < S.length := List.length_pos_iff.2 hne
    cases S with
    | nil => exact absurd rfl hne
    | cons a t => simp [decF, finF]
  | b :: r, [], h, hne => by
    have g := put0_good b
    rw [List.nil_append, nxF_first]
    simp only [decF, putF]
    unfold put0 at g ⊢
    by_cases h0 : sz b.toNat = 0
    · rw [if_pos h0, if_pos h0]; simp
    · rw [if_neg h0, if_neg h0] at *
      by_cases h1 : sz b.toNat = 1
      · rw [if_pos h1, if_pos h1]; simp
      · rw [if_neg h1, if_neg h1] at *
        have q := dec_step r [b] g (by simp)
        have e : nx (b :: r) 1 r.length = nxF ([b] ++ r) := by
          have := nx_skip g r 1 (by simp)
          unfold nxF
          rw [this]; simp
        rw [e]
        simpa using q
  | b :: r, a :: t, h, hne => by
    have hg := putF_good h b
    rw [nxF_next h]
    simp only [decF, putF] at hg ⊢
    cases hf : fol a.toNat (t.length + 1) b.toNat with
    | true =>
      rw [hf] at hg
      rw [if_pos rfl, if_pos rfl] at *
      by_cases hl : t.length + 2 < sz a.toNat
      · rw [if_pos hl, if_pos hl] at *
        have q := dec_step r (a :: (t ++ [b])) hg (by simp)
        have e : nx (a :: t ++ b :: r) (t.length + 2) r.length = nxF (a :: (t ++ [b]) ++ r) := by
          have := nx_skip hg r (t.length + 2) (by simp)
          unfold nxF
          rw [this]
          have e1 : a :: (t ++ [b]) ++ r = a :: t ++ b :: r := by simp
          rw [e1]
          congr 1
          simp; omega
        rw [e]
        simpa using q
      · rw [if_neg hl, if_neg hl] at *
        refine ⟨by simp, by simp <;> omega, ?_⟩
        simp only [List.cons_append, List.nil_append]
        rw [List.drop_succ_cons]
        congr 2
        rw [List.drop_append]
        simp
    | false =>
      simp only [Bool.false_eq_true, if_false]
      refine ⟨by simp, by simp <;> omega, ?_⟩
      simp only [List.cons_append, List.drop_succ_cons]
      rw [List.drop_append, List.drop_of_length_le (Nat.le_refl _)]
      simp [decF, putF]
theorem dec_next {b : List UInt8} (hb : b ≠ []) : 1 ≤ (nxF b).2.1 ∧ (nxF b).2.1 ≤ b.length ∧ decF [] b = (nxF b).1 :: decF [] (b.drop (nxF b).2.1) := dec_step b [] trivial (by simpa using hb)
/-- The reference's loop of Take. -/
def tk : Nat → List UInt8 → List Int × List UInt8
  | 0, B => ([], B)
  | f + 1, B => if B = [] then ([], []) else if (nxF B).2.2 then ((nxF B).1 :: (tk f (B.drop (nxF B).2.1)).1, (tk f (B.drop (nxF B).2.1)).2) else ([], B)
theorem tk_nil (f : Nat) : tk f [] = ([], []) := by cases f <;> simp [tk]
theorem tk_good {S : List UInt8} (h : Gd S) (f : Nat) : tk f S = ([], S) := by
  cases f with
  | zero => rfl
  | succ f =>
    unfold tk
    split
    · rename_i e; rw [e]
    · rename_i e
      rw [nxF_end h e]; rfl
theorem tk_first (b : UInt8) (f : Nat) : tk (f + 1) [b] = put0 b := by
  unfold tk
  rw [if_neg (by simp), nxF_first]
  have g := put0_good b
  unfold put0 at g ⊢
  by_cases h0 : sz b.toNat = 0
  · rw [if_pos h0, if_pos h0]; simp [tk_nil]
  · rw [if_neg h0, if_neg h0] at *
    by_cases h1 : sz b.toNat = 1
    · rw [if_pos h1, if_pos h1]; simp [tk_nil]
    · rw [if_neg h1, if_neg h1] at *
      simp [nx]
theorem tk_put {S : List UInt8} (h : Gd S) (b : UInt8) (f : Nat) : tk (f + 2) (S ++ [b]) = putF S b := by
  cases S with
  | nil => exact tk_first b _
  | cons a t =>
    have hg := putF_good h b
    unfold tk
    rw [if_neg (by simp), nxF_next h]
    rw [putF_cons] at hg ⊢
    cases hf : fol a.toNat (t.length + 1) b.toNat with
    | true =>
      rw [hf] at hg
      rw [if_pos rfl, if_pos rfl] at *
      by_cases hl : t.length + 2 < sz a.toNat
      · rw [if_pos hl, if_pos hl] at *
        simp [nx]
      · rw [if_neg hl, if_neg hl] at *
        have e : (a :: t ++ [b]).drop (t.length + 2) = [] := List.drop_of_length_le (by simp)
        simp only [e, tk_nil, if_true]
    | false =>
      simp only [Bool.false_eq_true, if_false]
      have e : (a :: t ++ [b]).drop (t.length + 1) = [b] := by
        rw [List.cons_append, List.drop_succ_cons, List.drop_append, List.drop_of_length_le (Nat.le_refl _)]; simp
      simp only [e, tk_first, if_true]
/-! Numbers. -/
def mayI (c : Int) : Bool := decide (0 ≤ c ∧ c ≤ 1114111 ∧ (c < 55296 ∨ 57343 < c))
def frm (c : Nat) : List UInt8 :=
  if c < 128 then [UInt8.ofNat c] else if c < 2048 then [UInt8.ofNat (192 + c / 64), UInt8.ofNat (128 + c % 64)]
  else if c < 65536 then [UInt8.ofNat (224 + c / 4096), UInt8.ofNat (128 + c / 64 % 64), UInt8.ofNat (128 + c % 64)]
  else [UInt8.ofNat (240 + c / 262144), UInt8.ofNat (128 + c / 4096 % 64), UInt8.ofNat (128 + c / 64 % 64), UInt8.ofNat (128 + c % 64)]
def chr (c : Int) : Nat := if mayI c then c.toNat else 65533
def encF (l : List Int) : List UInt8 := l.flatMap fun c => frm (chr c)
theorem frm_len (c : Nat) : (frm c).length ≤ 4 := by unfold frm; repeat (split <;> try simp)
theorem encF_len : ∀ l : List Int, (encF l).length ≤ 4 * l.length
  | [] => by simp [encF]
  | c :: l => by
    have := encF_len l
    have h := frm_len (chr c)
    simp only [encF, List.flatMap_cons, List.length_append, List.length_cons] at *
    omega
theorem encF_cons (c : Int) (l : List Int) : encF (c :: l) = frm (chr c) ++ encF l := rfl
theorem encF_snoc (l : List Int) (c : Int) : encF (l ++ [c]) = encF l ++ frm (chr c) := by simp [encF]
theorem chr_may (c : Int) : chr c ≤ 1114111 ∧ (chr c < 55296 ∨ 57343 < chr c) := by
  unfold chr
  split
  · rename_i h
    unfold mayI at h
    rw [decide_eq_true_eq] at h
    omega
  · omega
theorem u8n {n : Nat} (h : n < 256) : (UInt8.ofNat n).toNat = n := by simp [UInt8.toNat_ofNat]; omega
theorem sz2 {a : Nat} (h1 : 194 ≤ a) (h2 : a < 224) : sz a = 2 := by unfold sz; rw [if_neg (by omega), if_neg (by omega), if_pos h2]
theorem sz3 {a : Nat} (h1 : 224 ≤ a) (h2 : a < 240) : sz a = 3 := by unfold sz; rw [if_neg (by omega), if_neg (by omega), if_neg (by omega), if_pos h2]
theorem sz4 {a : Nat} (h1 : 240 ≤ a) (h2 : a < 245) : sz a = 4 := by unfold sz; rw [if_neg (by omega), if_neg (by omega), if_neg (by omega), if_neg (by omega), if_pos h2]
theorem fol1 {a b : Nat} (h1 : lo a ≤ b) (h2 : b ≤ hi a) : fol a 1 b = true := by unfold fol; rw [if_pos rfl, decide_eq_true_eq]; exact ⟨h1, h2⟩
theorem fol2 {a b k : Nat} (hk : k ≠ 1) (h1 : 128 ≤ b) (h2 : b ≤ 191) : fol a k b = true := by unfold fol; rw [if_neg hk, decide_eq_true_eq]; exact ⟨h1, h2⟩
theorem dec2 {a x : UInt8} (hs : sz a.toNat = 2) (hx : fol a.toNat 1 x.toNat = true) (r : List UInt8) : decF [] (a :: x :: r) = (val (bse a.toNat) [x] : Int) :: decF [] r := by
  simp only [decF, putF, put0, hs]
  simp [hs, hx]
theorem dec3 {a x y : UInt8} (hs : sz a.toNat = 3) (hx : fol a.toNat 1 x.toNat = true) (hy : fol a.toNat 2 y.toNat = true) (r : List UInt8) : decF [] (a :: x :: y :: r) = (val (bse a.toNat) [x, y] : Int) :: decF [] r := by
  simp only [decF, putF, put0, hs]
  simp [hs, hx, hy, decF, putF]
theorem dec4 {a x y z : UInt8} (hs : sz a.toNat = 4) (hx : fol a.toNat 1 x.toNat = true) (hy : fol a.toNat 2 y.toNat = true) (hz : fol a.toNat 3 z.toNat = true) (r : List UInt8) : decF [] (a :: x :: y :: z :: r) = (val (bse a.toNat) [x, y, z] : Int) :: decF [] r := by
  simp only [decF, putF, put0, hs]
  simp [hs, hx, hy, hz, decF, putF]
theorem dec_two {c : Nat} {x y : UInt8} (e1 : x.toNat = 192 + c / 64) (e2 : y.toNat = 128 + c % 64) (h1 : 128 ≤ c) (h2 : c < 2048) (r : List UInt8) : decF [] (x :: y :: r) = (c : Int) :: decF [] r := by
  have hl : lo x.toNat ≤ y.toNat := by unfold lo; split <;> (try split) <;> omega
  have hh : y.toNat ≤ hi x.toNat := by unfold hi; split <;> (try split) <;> omega
  have e3 : bse x.toNat = x.toNat - 192 := if_pos (by omega)
  have e4 : val (bse x.toNat) [y] = 64 * bse x.toNat + (y.toNat - 128) := rfl
  have ev : val (bse x.toNat) [y] = c := by rw [e4]; omega
  rw [dec2 (sz2 (by omega) (by omega)) (fol1 hl hh) r, ev]
theorem dec_three {c : Nat} {x y z : UInt8} (e1 : x.toNat = 224 + c / 4096) (e2 : y.toNat = 128 + c / 64 % 64) (e3 : z.toNat = 128 + c % 64) (h1 : 2048 ≤ c) (h2 : c < 65536) (h3 : c < 55296 ∨ 57343 < c) (r : List UInt8) : decF [] (x :: y :: z :: r) = (c : Int) :: decF [] r := by
  have hl : lo x.toNat ≤ y.toNat := by unfold lo; split <;> (try split) <;> omega
  have hh : y.toNat ≤ hi x.toNat := by unfold hi; split <;> (try split) <;> omega
  have e5 : bse x.toNat = x.toNat - 224 := by unfold bse; rw [if_neg (by omega), if_pos (by omega)]
  have e4 : val (bse x.toNat) [y, z] = 64 * (64 * bse x.toNat + (y.toNat - 128)) + (z.toNat - 128) := rfl
  have ev : val (bse x.toNat) [y, z] = c := by rw [e4]; omega
  rw [dec3 (sz3 (by omega) (by omega)) (fol1 hl hh) (fol2 (by decide) (by omega) (by omega)) r, ev]
theorem dec_four {c : Nat} {x y z u : UInt8} (e1 : x.toNat = 240 + c / 262144) (e2 : y.toNat = 128 + c / 4096 % 64) (e3 : z.toNat = 128 + c / 64 % 64) (e6 : u.toNat = 128 + c % 64) (h1 : 65536 ≤ c) (h2 : c ≤ 1114111) (r : List UInt8) : decF [] (x :: y :: z :: u :: r) = (c : Int) :: decF [] r := by
  have hl : lo x.toNat ≤ y.toNat := by unfold lo; split <;> (try split) <;> omega
  have hh : y.toNat ≤ hi x.toNat := by unfold hi; split <;> (try split) <;> omega
  have e5 : bse x.toNat = x.toNat - 240 := by unfold bse; rw [if_neg (by omega), if_neg (by omega)]
  have e4 : val (bse x.toNat) [y, z, u] = 64 * (64 * (64 * bse x.toNat + (y.toNat - 128)) + (z.toNat - 128)) + (u.toNat - 128) := rfl
  have ev : val (bse x.toNat) [y, z, u] = c := by rw [e4]; omega
  rw [dec4 (sz4 (by omega) (by omega)) (fol1 hl hh) (fol2 (by decide) (by omega) (by omega)) (fol2 (by decide) (by omega) (by omega)) r, ev]
/-- A form is decoded to its character. -/
theorem dec_frm {c : Nat} (h1 : c ≤ 1114111) (h2 : c < 55296 ∨ 57343 < c) (r : List UInt8) : decF [] (frm c ++ r) = (c : Int) :: decF [] r := by
  unfold frm
  split
  · rename_i a1
    have e := u8n (show c < 256 by omega)
    generalize UInt8.ofNat c = x at *
    subst e
    simp only [List.cons_append, List.nil_append, decF, putF, put0, sz_one a1]
    simp
  · split
    · exact dec_two (u8n (by omega)) (u8n (by omega)) (by omega) (by omega) r
    · split
      · exact dec_three (u8n (by omega)) (u8n (by omega)) (u8n (by omega)) (by omega) (by omega) h2 r
      · exact dec_four (u8n (by omega)) (u8n (by omega)) (u8n (by omega)) (u8n (by omega)) (by omega) (by omega) r
theorem dec_enc : ∀ l : List Int, (∀ c ∈ l, mayI c = true) → decF [] (encF l) = l
  | [], _ => rfl
  | c :: l, h => by
    have hc := h c (by simp)
    have hm := chr_may c
    have e : (chr c : Int) = c := by
      unfold chr
      rw [if_pos hc]
      unfold mayI at hc
      rw [decide_eq_true_eq] at hc
      omega
    rw [encF_cons, dec_frm hm.1 hm.2, dec_enc l (fun x hx => h x (by simp [hx])), e]
theorem lo_ge (a : Nat) : 128 ≤ lo a := by unfold lo; split <;> (try split) <;> omega
theorem hi_le (a : Nat) : hi a ≤ 191 := by unfold hi; split <;> (try split) <;> omega
theorem fol_bd {a k b : Nat} (h : fol a k b = true) : 128 ≤ b ∧ b ≤ 191 ∧ (k = 1 → lo a ≤ b ∧ b ≤ hi a) := by
  unfold fol at h
  have := lo_ge a
  have := hi_le a
  split at h
  · rw [decide_eq_true_eq] at h; exact ⟨by omega, by omega, fun _ => h⟩
  · rw [decide_eq_true_eq] at h; exact ⟨h.1, h.2, fun h => by omega⟩
theorem ofn (x : UInt8) {n : Nat} (h : n = x.toNat) : UInt8.ofNat n = x := by subst h; simp
theorem sz_cases (a : Nat) : (a < 128 ∧ sz a = 1) ∨ (194 ≤ a ∧ a < 224 ∧ sz a = 2) ∨ (224 ≤ a ∧ a < 240 ∧ sz a = 3) ∨ (240 ≤ a ∧ a < 245 ∧ sz a = 4) ∨ sz a = 0 := by
  unfold sz
  repeat (split <;> try omega)
theorem frm_chr {c : Nat} (h1 : c ≤ 1114111) (h2 : c < 55296 ∨ 57343 < c) : frm (chr (c : Int)) = frm c := by
  have hm : mayI (c : Int) = true := by unfold mayI; rw [decide_eq_true_eq]; omega
  unfold chr
  rw [if_pos hm, Int.toNat_natCast]
/-- What a whole form tells is a character whose form it is. -/
theorem frm_val {a : UInt8} {t : List UInt8} (h : okF a.toNat 1 t = true) (hl : t.length + 1 = sz a.toNat) (h2 : 2 ≤ sz a.toNat) : frm (chr (val (bse a.toNat) t : Int)) = a :: t := by
  have hc := sz_cases a.toNat
  match t, h, hl with
  | [], _, hl => simp at hl; omega
  | [x], h, hl =>
    have hs : sz a.toNat = 2 := by simpa using hl.symm
    simp only [okF, Bool.and_true] at h
    obtain ⟨b1, b2, b3⟩ := fol_bd h
    have ha : 194 ≤ a.toNat ∧ a.toNat < 224 := by omega
    have hb : bse a.toNat = a.toNat - 192 := by unfold bse; rw [if_pos ha.2]
    have e4 : val (bse a.toNat) [x] = 64 * bse a.toNat + (x.toNat - 128) := rfl
    generalize val (bse a.toNat) [x] = c at *
    rw [hb] at e4
    rw [frm_chr (by omega) (by omega)]
    unfold frm
    rw [if_neg (by omega), if_pos (by omega), ofn a (by omega), ofn x (by omega)]
  | [x, y], h, hl =>
    have hs : sz a.toNat = 3 := by simpa using hl.symm
    simp only [okF, Bool.and_true, Bool.and_eq_true] at h
    obtain ⟨b1, b2, b3⟩ := fol_bd h.1
    obtain ⟨c1, c2, _⟩ := fol_bd h.2
    have b4 := b3 rfl
    have ha : 224 ≤ a.toNat ∧ a.toNat < 240 := by omega
    have hb : bse a.toNat = a.toNat - 224 := by unfold bse; rw [if_neg (by omega), if_pos ha.2]
    have hlo : a.toNat = 224 → 160 ≤ x.toNat := fun e => by rw [e] at b4; exact b4.1
    have hhi : a.toNat = 237 → x.toNat ≤ 159 := fun e => by rw [e] at b4; exact b4.2
    clear b4 b3 hc
    have e4 : val (bse a.toNat) [x, y] = 64 * (64 * bse a.toNat + (x.toNat - 128)) + (y.toNat - 128) := rfl
    generalize val (bse a.toNat) [x, y] = c at *
    rw [hb] at e4
    rw [frm_chr (by omega) (by omega)]
    unfold frm
    rw [if_neg (by omega), if_neg (by omega), if_pos (by omega), ofn a (by omega), ofn x (by omega), ofn y (by omega)]
  | [x, y, z], h, hl =>
    have hs : sz a.toNat = 4 := by simpa using hl.symm
    simp only [okF, Bool.and_true, Bool.and_eq_true] at h
    obtain ⟨b1, b2, b3⟩ := fol_bd h.1
    obtain ⟨c1, c2, _⟩ := fol_bd h.2.1
    obtain ⟨d1, d2, _⟩ := fol_bd h.2.2
    have b4 := b3 rfl
    have ha : 240 ≤ a.toNat ∧ a.toNat < 245 := by omega
    have hb : bse a.toNat = a.toNat - 240 := by unfold bse; rw [if_neg (by omega), if_neg (by omega)]
    have hlo : a.toNat = 240 → 144 ≤ x.toNat := fun e => by rw [e] at b4; exact b4.1
    have hhi : a.toNat = 244 → x.toNat ≤ 143 := fun e => by rw [e] at b4; exact b4.2
    clear b4 b3 hc
    have e4 : val (bse a.toNat) [x, y, z] = 64 * (64 * (64 * bse a.toNat + (x.toNat - 128)) + (y.toNat - 128)) + (z.toNat - 128) := rfl
    generalize val (bse a.toNat) [x, y, z] = c at *
    rw [hb] at e4
    rw [frm_chr (by omega) (by omega)]
    unfold frm
    rw [if_neg (by omega), if_neg (by omega), if_neg (by omega), ofn a (by omega), ofn x (by omega), ofn y (by omega), ofn z (by omega)]
  | _ :: _ :: _ :: _ :: _, _, hl => have := sz_le a.toNat; simp at hl; omega
theorem frm_one {b : UInt8} (h : sz b.toNat = 1) : frm (chr (b.toNat : Int)) = [b] := by
  have hc := sz_cases b.toNat
  have hb : b.toNat < 128 := by omega
  have hm : mayI (b.toNat : Int) = true := by unfold mayI; rw [decide_eq_true_eq]; omega
  unfold chr
  rw [if_pos hm]
  unfold frm
  rw [if_pos (by omega), ofn b (by omega)]
/-- Bytes of forms alone are encoded again as they were. -/
theorem enc_dec : ∀ (b S : List UInt8), Gd S → (∀ c ∈ decF S b, c ≠ 65533) → encF (decF S b) = S ++ b
  | [], S, h, hn => by
    cases S with
    | nil => rfl
    | cons a t => exact absurd rfl (hn 65533 (by simp [decF, finF]))
  | b :: r, [], h, hn => by
    have g := put0_good b
    simp only [decF, putF] at hn ⊢
    unfold put0 at g hn ⊢
    by_cases h0 : sz b.toNat = 0
    · rw [if_pos h0] at hn; exact absurd rfl (hn 65533 (by simp))
    · rw [if_neg h0] at *
      by_cases h1 : sz b.toNat = 1
      · rw [if_pos h1] at *
        have q := enc_dec r [] trivial (fun c hc => hn c (by simp [hc]))
        simp only [List.cons_append, List.nil_append, encF_cons, frm_one h1]
        rw [q]; rfl
      · rw [if_neg h1] at *
        have q := enc_dec r [b] g (fun c hc => hn c (by simpa using hc))
        simpa using q
  | b :: r, a :: t, h, hn => by
    have hg := putF_good h b
    simp only [decF, putF] at hg hn ⊢
    cases hf : fol a.toNat (t.length + 1) b.toNat with
    | true =>
      rw [hf] at hg hn
      rw [if_pos rfl] at *
      by_cases hl : t.length + 2 < sz a.toNat
      · rw [if_pos hl] at *
        have q := enc_dec r _ hg (fun c hc => hn c (by simpa using hc))
        simpa using q
      · rw [if_neg hl] at *
        have q := enc_dec r [] trivial (fun c hc => hn c (by simp [hc]))
        have hf2 := frm_val (a := a) (t := t ++ [b]) (by rw [okF_append, h.2.2, show 1 + t.length = t.length + 1 by omega, hf]; rfl) (by have := h.2.1; simp; omega) h.1
        simp only [List.cons_append, List.nil_append, encF_cons, hf2]
        rw [q]; simp
    | false =>
      rw [hf, if_neg (by simp)] at hn
      exact absurd rfl (hn 65533 (by simp))
end Go.Proofs.YtfnlnbdlahckeaaDoor
