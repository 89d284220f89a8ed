/-
  The contract of kdf.isLabel: a range over a string's letters.
-/
import Derived.Test.YtkpaldkmikjpiaaDoorKdfRef
namespace Go.Proofs.YtkpaldkmikjpiaaDoor
open Go.ChangeShapes Go.WideShapes Go.ChangeAt Go.RowKit

theorem iter_below (w : World) (s : ByteArray) (pos : Nat) : Below w.heap.size w (w.iter s pos) := (Below.refl _ _).alloc (Nat.le_refl _) _

theorem str_at (s : List UInt8) (k : Nat) (c : UInt8) (h : s[k]? = some c) : ∃ hk : k < (⟨s.toArray⟩ : ByteArray).size, (⟨s.toArray⟩ : ByteArray)[k]'hk = c := by
  obtain ⟨hk, he⟩ := List.getElem?_eq_some_iff.1 h
  refine ⟨by simp [ByteArray.size]; exact hk, ?_⟩
  rw [← he]; rfl

set_option maxHeartbeats 1600000 in
set_option maxRecDepth 20000 in
theorem isLabel_any (s : List UInt8) (hs : s.length ≤ 9223372036854775807) (w : World) : Calls Tryd.prog 28 #[.string ⟨s.toArray⟩] w fun e w' => e = .returned (.bool (labelL s)) ∧ Below w.heap.size w w' := by
  obtain ⟨F, hF⟩ : ∃ F, F = labelL s := ⟨_, rfl⟩
  rw [← hF]
  have HF : Hid (F = (s.all okC && decide (1 ≤ s.length ∧ s.length ≤ 64))) := hF
  clear hF
  by_cases h1 : s.length < 1
  · have HFF : Hid (F = false) := by
      rw [HF.out, show decide (1 ≤ s.length ∧ s.length ≤ 64) = false from by simp; omega]; simp; exact trivial
    have d1 : (s.length : Int) < 1 := by omega
    go_enter Tryd.func28, Tryd.ntmps28
    go_wp2
    go_ret
    exact ⟨by rw [HFF.out]; rfl, Below.refl _ _⟩
  have d1 : decide ((s.length : Int) < 1) = false := by simp; omega
  by_cases h2 : 64 < s.length
  · have HFF : Hid (F = false) := by
      rw [HF.out, show decide (1 ≤ s.length ∧ s.length ≤ 64) = false from by simp; omega]; simp; exact trivial
    have d2 : (64 : Int) < (s.length : Int) := by omega
    go_enter Tryd.func28, Tryd.ntmps28
    go_wp2
    go_ret
    exact ⟨by rw [HFF.out]; rfl, Below.refl _ _⟩
  have d2 : decide ((64 : Int) < (s.length : Int)) = false := by simp; omega
  have HFA : Hid (F = s.all okC) := by
    rw [HF.out, show decide (1 ≤ s.length ∧ s.length ≤ 64) = true from by simp; omega, Bool.and_true]; exact rfl
  clear HF
  obtain ⟨S, hS⟩ : ∃ S : ByteArray, S = ⟨s.toArray⟩ := ⟨_, rfl⟩
  have hSz : S.size = s.length := by rw [hS]; simp [ByteArray.size]
  rw [← hS]
  have HS : Hid (S = ⟨s.toArray⟩) := hS
  have HSZ : Hid (S.size = s.length) := hSz
  rw [← hSz] at d1 d2 h1 h2 hs
  clear hS hSz
  go_enter Tryd.func28, Tryd.ntmps28
  go_wp2
  go_loopw [4] (fun _ w' => ∃ pos : Nat, pos ≤ S.size ∧ w' = w.iter S pos ∧ Hid ((s.take pos).all okC = true)) (fun _ w' => S.size - w'.iterPos w.heap.size)
  case atStart => exact ⟨0, by omega, rfl, by simp; exact trivial⟩
  case round =>
    obtain ⟨pos, hpos, rfl, hall⟩ := hrel
    by_cases hp : pos < S.size
    · obtain ⟨c, hc⟩ : ∃ c, s[pos]? = some c := ⟨s[pos]'(by rw [← HSZ.out]; exact hp), by simp⟩
      obtain ⟨hp', hat⟩ := str_at s pos c hc
      have hatS : S[pos]'hp = c := by rw [← hat]; simp [HS.out]
      have hst := label_take s pos c hc
      by_cases h7 : c.toNat < 128
      · have hnx : ∀ ty, (Instr.next (.pointer (some ⟨w.heap.size, 0, none⟩)) true ty).run Tryd.prog (w.iter S pos) = _ := fun ty => run_next_ascii w S pos ty hp (by rw [hatS]; exact h7)
        rw [hatS] at hnx
        by_cases h97 : c.toNat < 97
        · have HFF : Hid (F = false) := by
            rw [HFA.out, List.all_eq_false.2 ⟨c, List.mem_of_getElem? hc, by unfold okC; simp; omega⟩]; exact rfl
          have e1 : (c.toNat : Int) < 97 := by omega
          clear hst hc hall hat hatS
          go_wp2
          go_ret
          exact ⟨by rw [HFF.out]; rfl, iter_below _ _ _⟩
        · have e1 : decide ((c.toNat : Int) < 97) = false := by simp; omega
          by_cases h122 : 122 < c.toNat
          · have HFF : Hid (F = false) := by
              rw [HFA.out, List.all_eq_false.2 ⟨c, List.mem_of_getElem? hc, by unfold okC; simp; omega⟩]; exact rfl
            have e2 : (122 : Int) < (c.toNat : Int) := by omega
            clear hst hc hall hat hatS
            go_wp2
            go_ret
            exact ⟨by rw [HFF.out]; rfl, iter_below _ _ _⟩
          · have e2 : decide ((122 : Int) < (c.toNat : Int)) = false := by simp; omega
            have hyes : okC c = true := by unfold okC; simp; omega
            have HA : Hid ((s.take (pos + 1)).all okC = true) := by rw [hst, hall.out, hyes]; exact rfl
            clear hst hc hall hat hatS hyes
            go_wp2
            go_roundw
            case rel => exact ⟨pos + 1, by omega, rfl, HA⟩
            case measure => simp; omega
      · obtain ⟨v, hv⟩ : ∃ v, v = (Utf8.decode S pos).1 := ⟨_, rfl⟩
        have hv128 : 128 ≤ v := by rw [hv]; exact (decode_high S pos hp (by rw [hatS]; omega)).1
        have hnx : ∀ ty, (Instr.next (.pointer (some ⟨w.heap.size, 0, none⟩)) true ty).run Tryd.prog (w.iter S pos) = _ := fun ty => run_next_any w S pos ty hp
        rw [← hv] at hnx
        have HFF : Hid (F = false) := by
          rw [HFA.out, List.all_eq_false.2 ⟨c, List.mem_of_getElem? hc, by unfold okC; simp; omega⟩]; exact rfl
        have e1 : decide ((v : Int) < 97) = false := by simp; omega
        have e2 : (122 : Int) < (v : Int) := by omega
        clear hst hc hall hat hatS hv
        go_wp2
        go_ret
        exact ⟨by rw [HFF.out]; rfl, iter_below _ _ _⟩
    · obtain rfl : pos = S.size := by omega
      have hnx : ∀ ty, (Instr.next (.pointer (some ⟨w.heap.size, 0, none⟩)) true ty).run Tryd.prog (w.iter S S.size) = _ := fun ty => run_next_end w S S.size ty hp
      have HFT : Hid (F = true) := by
        have h9 := hall.out
        rw [HSZ.out, List.take_length] at h9
        rw [HFA.out, h9]; exact rfl
      clear hall
      go_wp2
      go_ret
      exact ⟨by rw [HFT.out]; rfl, iter_below _ _ _⟩
end Go.Proofs.YtkpaldkmikjpiaaDoor
