/-
  The contract of row.write.
-/
import Derived.Test.YtoggjpkbbncbbaaBitsAdd
import Derived.Test.YtoggjpkbbncbbaaBitsPut
namespace Go.Proofs.Ytoggjpkbbncbbaa
open Go.ChangeShapes Go.WideShapes Go.ChangeAt Go.RowKit

set_option maxHeartbeats 3200000 in
set_option maxRecDepth 20000 in
/-- .. behind bits that end within a byte. -/
theorem write_odd (ty : TypeId) (R : List Value) (hty : ty ≠ 5) (w : World) (b : Nat) (bs : List Bool) (F : Nat → Prop) (h : RowB ty R w b bs F) (x : Option Addr) (cx : Nat) (l : List UInt8) (hs : Sees w x cx l) (hsn : ∀ b off, x = some ⟨b, off, none⟩ → l ≠ [] → ¬ F b) (hu : bs.length % 8 ≠ 0) (hl : bs.length + 8 * l.length ≤ 8192) :
    Calls Try.prog 57 #[.pointer (some ⟨b, 0, none⟩), .slice x l.length cx] w fun e w' => (∃ r, e = .returned r) ∧ Left (RowB ty R) w F b (bs ++ bitsOf l) w' := by
  obtain ⟨d, cd, c0, c1, c2, fz, _, _, _⟩ := h.reads
  simp only at c2
  obtain ⟨L, hL⟩ : ∃ L, L = bs.length := ⟨_, rfl⟩
  rw [← hL] at c2
  obtain ⟨u, hu1⟩ : ∃ u, u = L % 8 := ⟨_, rfl⟩
  have u1 : (L : Int) % 8 = (u : Int) := by omega
  have u2 : (L : Int).tmod 8 = (u : Int) := by rw [Int.tmod_eq_emod_of_nonneg (by omega)]; exact u1
  have du : ((u : Int) == 0) = false := by rw [hu1, hL]; simp; omega
  have HL : Hid (bs.length + 8 * l.length ≤ 8192) := hl
  have hLm : L ≤ 8192 := by omega
  have hll : l.length ≤ 1024 := by omega
  have HS : Hid (Sees w x cx l) := hs
  have HSN : Hid (∀ b off, x = some ⟨b, off, none⟩ → l ≠ [] → ¬ F b) := hsn
  have HL0 : Hid (Left (RowB ty R) w F b (bs ++ bitsOf (l.take 0)) w) := ⟨F, by rw [List.take_zero]; simpa [bitsOf] using h, Apart.refl _ _, fun _ h => .inl h⟩
  clear h hs hsn hu hl hL hu1 c0 c1 fz
  go_enter Try.func57, Try.ntmps57
  go_wp2
  go_loopw [5, 15] (fun _ i wr => ∃ k : Nat, k ≤ l.length ∧ i = .int .i64 k ∧ Left (RowB ty R) w F b (bs ++ bitsOf (l.take k)) wr) (fun _ i _ => l.length - (intOf i).toNat)
  case atStart => exact ⟨0, Nat.zero_le _, rfl, HL0.out⟩
  case round =>
    obtain ⟨k, hk, rfl, F1, hM, hap, hF1⟩ := hrel
    clear HL0
    by_cases hlt : k < l.length
    · obtain ⟨c, hc⟩ : ∃ c, l[k]? = some c := ⟨l[k], by simp [hlt]⟩
      obtain ⟨b1, o1, rfl, hc1⟩ := (hap.sees HS.out HSN.out).get hc
      have htl : (l.take k).length = k := by simp; omega
      have hadd := add_ok ty R hty wr b _ F1 hM c.toNat 8 (by have := toNat_lt256 c; omega) (by omega) (by rw [List.length_append, bitsOf_length, htl]; have := HL.out; omega)
      have e1 : bs ++ bitsOf (l.take k) ++ bitsN c.toNat 8 = bs ++ bitsOf (l.take (k + 1)) := by
        rw [take_snoc l k c hc, bitsOf_app, bitsN_byte, List.append_assoc]; simp [bitsOf]
      rw [e1] at hadd
      have hc8 : c.toNat < 256 := toNat_lt256 c
      have wc : IntKind.u64.wrap (c.toNat : Int) = (c.toNat : Int) := by rw [IntKind.wrap_u64]; omega
      have HAP : Hid (Apart F w wr) := hap
      have HF1 : Hid (∀ k, F1 k → F k ∨ w.heap.size ≤ k) := hF1
      clear hM hap hF1 hc e1 htl c2
      go_wp2_with fail
      refine hadd.mono ?_
      rintro e w2 ⟨⟨r, rfl⟩, F2, hM2, hap2, hF2⟩
      have HE : Hid (Left (RowB ty R) w F b (bs ++ bitsOf (l.take (k + 1))) w2) := ⟨F2, hM2, HAP.out.trans hap2 HF1.out, fun i hi => by
        rcases hF2 i hi with h | h
        · exact HF1.out i h
        · have := HAP.out.size; exact .inr (by omega)⟩
      clear hM2 hap2 hF2 hadd
      go_wp2
      go_roundw
      case rel => exact ⟨k + 1, by omega, by go_num, HE.out⟩
      case measure => simp [intOf]; omega
    · obtain rfl : k = l.length := by omega
      rw [List.take_length] at hM
      have HE : Hid (Left (RowB ty R) w F b (bs ++ bitsOf l) wr) := ⟨F1, hM, hap, hF1⟩
      clear hM hap hF1
      go_wp2
      try simp only [Exit.inBlock, Exit.then]
      refine bodyPost_ret (results_none rfl _ _ _) rfl ?_
      exact ⟨⟨_, rfl⟩, HE.out⟩

set_option maxHeartbeats 3200000 in
set_option maxRecDepth 20000 in
/-- .. behind whole bytes. -/
theorem write_even (ty : TypeId) (R : List Value) (hty : ty ≠ 5) (w : World) (b : Nat) (bs : List Bool) (F : Nat → Prop) (h : RowB ty R w b bs F) (x : Option Addr) (cx : Nat) (l : List UInt8) (hs : Sees w x cx l) (hsn : ∀ b off, x = some ⟨b, off, none⟩ → l ≠ [] → ¬ F b) (q : Nat) (hq : bs.length = 8 * q) (hl : q + l.length ≤ 140737488355328) :
    Calls Try.prog 57 #[.pointer (some ⟨b, 0, none⟩), .slice x l.length cx] w fun e w' => (∃ r, e = .returned r) ∧ Left (RowB ty R) w F b (bs ++ bitsOf l) w' := by
  obtain ⟨P, hP⟩ : ∃ P, P = packL bs := ⟨_, rfl⟩
  have hPl : P.length = q := by rw [hP, packL_length]; omega
  obtain ⟨L, hL⟩ : ∃ L, L = 8 * q := ⟨_, rfl⟩
  have hR : RowP ty R w b (L, P) F := by unfold RowB at h; rw [hq, ← hP, ← hL] at h; exact h
  obtain ⟨d, cd, c0, c1, c2, fz, _, _, hown⟩ := hR.reads
  simp only at c1 c2 hown
  have hfF : ∀ k, (Value.slice d P.length cd).ownBlock = some k → F k := by
    obtain ⟨v, h1, _, _, h4, _⟩ := hR
    have h6 := cell_of_row _ _ 1 _ _ _ h1
    rw [c1] at h6
    have hv : Value.slice d P.length cd = v := by simpa using h6
    rw [hv]; exact h4
  have hgrow := grow_ok w 0 _ P hown l.length (by omega)
  obtain ⟨m, hm⟩ : ∃ m, m = l.length := ⟨_, rfl⟩
  -- what comes of it
  have hend : ∀ W3, Left (RowP ty R) w F b (L, P ++ l) W3 → Left (RowB ty R) w F b (bs ++ bitsOf l) (W3.setCell ⟨b, 2, none⟩ (.int .i64 ((L + 8 * m : Nat) : Int))) ∧ W3.cell? ⟨b, 2, none⟩ = some (.int .i64 (L : Int)) ∧ W3.frozen? ⟨b, 2, none⟩ = false ∧ ∃ d' cd', W3.cell? ⟨b, 1, none⟩ = some (.slice d' (q + m) cd') := by
    rintro W3 ⟨F3, hR3, hap3, hF3⟩
    obtain ⟨d3, cd3, _, k1, k2, k3, _⟩ := hR3.reads
    refine ⟨⟨F3, ?_, hap3.setCell (hF3 b (by obtain ⟨_, _, _, h5, _⟩ := hR3; exact h5)) 2 _, hF3⟩, k2, k3 2, d3, cd3, ?_⟩
    · unfold RowB
      rw [packL_even bs q hq l, ← hP, List.length_append, bitsOf_length, hq, ← hL, ← hm]
      exact row_size hty hR3 _
    · simpa [hPl, hm] using k1
  have u1 : (L : Int) % 8 = 0 := by omega
  have u2 : (L : Int).tmod 8 = 0 := by rw [Int.tmod_eq_emod_of_nonneg (by omega)]; exact u1
  obtain ⟨L2, hL2⟩ : ∃ L2, L2 = L + 8 * m := ⟨_, rfl⟩
  have l1 : (L : Int) + 8 * (m : Int) = (L2 : Int) := by omega
  rw [← hL2] at hend
  have HEND : Hid (∀ W3, Left (RowP ty R) w F b (L, P ++ l) W3 → Left (RowB ty R) w F b (bs ++ bitsOf l) (W3.setCell ⟨b, 2, none⟩ (.int .i64 (L2 : Int))) ∧ W3.cell? ⟨b, 2, none⟩ = some (.int .i64 (L : Int)) ∧ W3.frozen? ⟨b, 2, none⟩ = false ∧ ∃ d' cd', W3.cell? ⟨b, 1, none⟩ = some (.slice d' (q + m) cd')) := hend
  have HR : Hid (RowP ty R w b (L, P) F) := hR
  have HS : Hid (Sees w x cx l) := hs
  have HSN : Hid (∀ b off, x = some ⟨b, off, none⟩ → l ≠ [] → ¬ F b) := hsn
  have HFF : Hid (∀ k, (Value.slice d P.length cd).ownBlock = some k → F k) := hfF
  have HM : Hid (m = l.length ∧ P.length = q ∧ L = 8 * q ∧ L2 = L + 8 * m) := ⟨hm, hPl, hL, hL2⟩
  have hLm : L2 ≤ 1125899906842624 := by omega
  have hLm2 : L ≤ L2 := by omega
  have hmm : m ≤ 140737488355328 := by omega
  have hqm : q + m ≤ 140737488355328 := by omega
  rw [hPl] at c1 hgrow
  rw [← hm] at hgrow ⊢
  clear hR h hs hsn hfF hend hown hP hq hl hPl hL hL2 hm c0 fz
  go_enter Try.func57, Try.ntmps57
  go_wp2_with fail
  refine hgrow.mono ?_
  rintro e w1 ⟨v', rfl, hroom, hvv, hbel⟩
  clear hgrow
  rcases hroom with ⟨rfl, hP0, hm0⟩ | ⟨g, cap, cur, rfl, hg, hcap, hcm, hcs, htk⟩
  · obtain rfl : m = 0 := hm0
    have hq0 : q = 0 := by have := HM.out.2.1; rw [hP0] at this; exact this.symm
    subst hq0
    have hl0 : l = [] := List.eq_nil_of_length_eq_zero HM.out.1.symm
    have hR0 : RowP ty R w b (L, []) F := by have := HR.out; rw [hP0] at this; exact this
    obtain ⟨e1, e2, hL1⟩ := row_none hR0 hbel
    obtain ⟨W2, hW2⟩ : ∃ W2, W2 = w1.setCell ⟨b, 1, none⟩ (.slice none 0 0) := ⟨_, rfl⟩
    rw [← hW2] at hL1
    rw [c1] at e1
    have hst : (Instr.storeAt 23 (.pointer (some ⟨b, 1, none⟩)) (.slice none 0 0)).run Try.prog w1 = .ok () W2 := by
      rw [hW2]; simp [Instr.storeAt, Instr.sureAddr, e1, e2, go_sem]
    have hL2 : Left (RowP ty R) w F b (L, P ++ l) W2 := by rw [hP0, hl0]; exact hL1
    obtain ⟨HE, k2, k3, _⟩ := HEND.out W2 hL2
    have k1 : W2.cell? ⟨b, 1, none⟩ = some (.slice none 0 0) := by rw [hW2]; simp [e1, go_sem]
    have HST : Hid ((Instr.storeAt 23 (.pointer (some ⟨b, 1, none⟩)) (.slice none 0 0)).run Try.prog w1 = .ok () W2) := hst
    have HCP : Hid ((Builtin.copy_ #[23, 23] 3 #[.slice none 0 0, .slice x 0 cx]).run Try.prog W2 = .ok (.int .i64 0) W2) := copy_nil _ _ _ _ _ _
    have HE2 : Hid (Left (RowB ty R) w F b (bs ++ bitsOf l) (W2.setCell ⟨b, 2, none⟩ (.int .i64 (L2 : Int)))) := HE
    have hLL : L2 = L := by have := HM.out.2.2.2; omega
    subst hLL
    clear hst hL2 hL1 hR0 hW2 HE hP0 hl0 hvv hbel
    go_wp2_with (first | refine wpList_copy_run rfl _ _ 23 rfl _ _ _ rfl rfl HCP.out ?_ | refine wpList_bstore_run rfl 23 _ _ rfl _ _ rfl rfl HST.out ?_)
    go_end0
    exact ⟨⟨_, rfl⟩, HE2.out⟩
  · have hgF : F g ∨ w.heap.size ≤ g := by
      rcases hvv with h | h
      · exact .inl (HFF.out g (by rw [HM.out.2.1, ← h]; rfl))
      · have h9 : g = w.heap.size := by simpa [Value.ownBlock] using h
        exact .inr (by omega)
    have hml := HM.out.1
    rw [hml] at hcap
    obtain ⟨e1, e2, W3, hcopy, hL3⟩ := row_put hty HR.out hbel g cap cur hg x cx l HS.out HSN.out hcap hcm hcs htk hgF
    rw [HM.out.2.1, ← hml] at hcopy
    rw [HM.out.2.1, ← hml] at hcap
    have hcm1 : cap ≤ 9223372036854775807 := by unfold maxLen at hcm; omega
    obtain ⟨W2, hW2⟩ : ∃ W2, W2 = w1.setCell ⟨b, 1, none⟩ (.slice (some ⟨g, 0, none⟩) (q + m) cap) := ⟨_, rfl⟩
    rw [← hW2] at hcopy
    rw [c1] at e1
    have hst : (Instr.storeAt 23 (.pointer (some ⟨b, 1, none⟩)) (.slice (some ⟨g, 0, none⟩) (q + m) cap)).run Try.prog w1 = .ok () W2 := by
      rw [hW2]; simp [Instr.storeAt, Instr.sureAddr, e1, e2, go_sem]
    have k1 : W2.cell? ⟨b, 1, none⟩ = some (.slice (some ⟨g, 0, none⟩) (q + m) cap) := by rw [hW2]; simp [e1, go_sem]
    obtain ⟨HE, k2, k3, _⟩ := HEND.out W3 hL3
    have HST : Hid ((Instr.storeAt 23 (.pointer (some ⟨b, 1, none⟩)) (.slice (some ⟨g, 0, none⟩) (q + m) cap)).run Try.prog w1 = .ok () W2) := hst
    have HE2 : Hid (Left (RowB ty R) w F b (bs ++ bitsOf l) (W3.setCell ⟨b, 2, none⟩ (.int .i64 (L2 : Int)))) := HE
    have hPq := HM.out.2.1
    rw [hPq]
    have hqm1 : q ≤ q + m := by omega
    have hqm2 : q + m - q = m := by omega
    clear hst hL3 hW2 HE hvv hbel hg hcm hcs htk hgF HFF
    by_cases hcq : cap = q
    · subst hcq
      obtain rfl : m = 0 := by omega
      have hl0 : l = [] := List.eq_nil_of_length_eq_zero hml.symm
      have HCP : Hid ((Builtin.copy_ #[23, 23] 3 #[.slice (some ⟨g, 0, none⟩) 0 0, .slice x 0 cx]).run Try.prog W2 = .ok (.int .i64 0) W3) := hcopy _ (.inr ⟨hl0, rfl⟩)
      clear hcopy hl0 hml hPq
      have hLL : L2 = L := by have := HM.out.2.2.2; omega
      subst hLL
      go_wp2_with (first | refine wpList_copy_run rfl _ _ 23 rfl _ _ _ rfl rfl HCP.out ?_ | refine wpList_bstore_run rfl 23 _ _ rfl _ _ rfl rfl HST.out ?_)
      go_end0
      exact ⟨⟨_, rfl⟩, HE2.out⟩
    · have HCP : Hid ((Builtin.copy_ #[23, 23] 3 #[.slice (some ⟨g, q, none⟩) m (cap - q), .slice x m cx]).run Try.prog W2 = .ok (.int .i64 (m : Int)) W3) := hcopy _ (.inl rfl)
      clear hcopy hml hPq
      go_wp2_with (first | refine wpList_copy_run rfl _ _ 23 rfl _ _ _ rfl rfl HCP.out ?_ | refine wpList_bstore_run rfl 23 _ _ rfl _ _ rfl rfl HST.out ?_)
      go_end0
      exact ⟨⟨_, rfl⟩, HE2.out⟩
end Go.Proofs.Ytoggjpkbbncbbaa
