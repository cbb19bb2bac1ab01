/- Texts and times: past, Suffix. -/
import Derived.Test.YtikkekdmahdgaaaRa
namespace Go.Proofs.Ytikkekdmahdgaaa
open Go.RowKit Go.BigFrame
set_option linter.unusedSimpArgs false
set_option linter.unusedVariables false

/-- Is now at least the time a and so many together? -/
def pastF (now a : UInt64) (ms : Int) : Bool := decide (a.toNat ≤ now.toNat ∧ ms ≤ (now.toNat : Int) - (a.toNat : Int))
def sufF (a b : List UInt8) : List UInt8 × Bool := if a.length ≤ b.length ∧ b.take a.length = a then (b.drop a.length, true) else ([], false)

set_option maxRecDepth 100000 in
theorem past_any (now a : UInt64) (ms : Int) (h0 : 0 ≤ ms) (h1 : ms < 9223372036854775808) (w : World) : Calls Try.prog 31 #[uV now, uV a, .int .i64 ms] w fun e w' => e = .returned (.bool (pastF now a ms)) ∧ w' = w := by
  have hn := now.toNat_lt
  have ha := a.toNat_lt
  have HP := Box'.mk (pastF.eq_1 now a ms)
  generalize pastF now a ms = R at *
  unfold uV
  generalize now.toNat = x at *
  generalize a.toNat = y at *
  by_cases hxy : y ≤ x
  · by_cases hm : ms ≤ (x : Int) - (y : Int)
    · have RE : Box' (R = true) := ⟨by rw [HP.out]; simp [hxy, hm]⟩
      clear HP
      go_enter Try.func31, Try.ntmps31
      go_wp2_with fail
      go_ret
      exact ⟨by rw [RE.out]; rfl, rfl⟩
    · have RE : Box' (R = false) := ⟨by rw [HP.out]; simp [hm]⟩
      clear HP
      go_enter Try.func31, Try.ntmps31
      go_wp2_with fail
      go_ret
      exact ⟨by rw [RE.out]; rfl, rfl⟩
  · have RE : Box' (R = false) := ⟨by rw [HP.out]; simp [hxy]⟩
    clear HP
    go_enter Try.func31, Try.ntmps31
    go_wp2_with fail
    go_ret
    exact ⟨by rw [RE.out]; rfl, rfl⟩

theorem str_cut (b : List UInt8) (i k : Nat) : (⟨b.toArray⟩ : ByteArray).extract i k = ⟨((b.drop i).take (k - i)).toArray⟩ := by
  have e : ((⟨b.toArray⟩ : ByteArray).extract i k).data = ((b.drop i).take (k - i)).toArray := by
    rw [ByteArray.data_extract]
    apply Array.ext'
    simp [List.extract]
  generalize (⟨b.toArray⟩ : ByteArray).extract i k = z at *
  cases z
  rw [← e]
theorem str_app (a b : List UInt8) : (⟨a.toArray⟩ : ByteArray) ++ (⟨b.toArray⟩ : ByteArray) = ⟨(a ++ b).toArray⟩ := by
  have e : ((⟨a.toArray⟩ : ByteArray) ++ (⟨b.toArray⟩ : ByteArray)).data = (a ++ b).toArray := by
    rw [ByteArray.data_append]; simp
  generalize (⟨a.toArray⟩ : ByteArray) ++ (⟨b.toArray⟩ : ByteArray) = z at *
  cases z
  rw [← e]
theorem str_take (b : List UInt8) (k : Nat) : (⟨b.toArray⟩ : ByteArray).extract 0 k = ⟨(b.take k).toArray⟩ := by rw [str_cut]; simp
theorem str_drop (b : List UInt8) (k : Nat) : (⟨b.toArray⟩ : ByteArray).extract k b.length = ⟨(b.drop k).toArray⟩ := by rw [str_cut, List.take_of_length_le (by simp)]
set_option maxRecDepth 100000 in
theorem suffix_any (a b : List UInt8) (ha : a.length ≤ 140737488355328) (hb : b.length ≤ 140737488355328) (w : World) : Calls Try.prog 32 #[sT a, sT b] w fun e w' => e = .returned (.tuple #[sT (sufF a b).1, .bool (sufF a b).2]) ∧ w' = w := by
  have HP := Box'.mk (sufF.eq_1 a b)
  have SD := Box'.mk (str_drop b a.length)
  have e1 : (((⟨b.toArray⟩ : ByteArray).extract 0 a.length).toList == a) = decide (b.take a.length = a) := by
    rw [str_take]
    have := bytes_eq (b.take a.length) a
    simpa using this
  unfold sT
  by_cases h1 : a.length ≤ b.length
  · by_cases h2 : b.take a.length = a
    · have RE : Box' (sufF a b = (b.drop a.length, true)) := ⟨by rw [HP.out, if_pos ⟨h1, h2⟩]⟩
      rw [decide_eq_true h2] at e1
      clear HP h2
      go_enter Try.func32, Try.ntmps32
      go_wp2_with fail
      go_ret2
      exact ⟨by rw [RE.out, ← SD.out]; rfl, rfl⟩
    · have RE : Box' (sufF a b = ([], false)) := ⟨by rw [HP.out, if_neg (fun h => h2 h.2)]⟩
      rw [decide_eq_false h2] at e1
      clear HP h2
      go_enter Try.func32, Try.ntmps32
      go_wp2_with fail
      go_ret2
      exact ⟨by rw [RE.out]; rfl, rfl⟩
  · have RE : Box' (sufF a b = ([], false)) := ⟨by rw [HP.out, if_neg (fun h => h1 h.1)]⟩
    clear HP e1
    go_enter Try.func32, Try.ntmps32
    go_wp2_with fail
    go_ret2
    exact ⟨by rw [RE.out]; rfl, rfl⟩
end Go.Proofs.Ytikkekdmahdgaaa
