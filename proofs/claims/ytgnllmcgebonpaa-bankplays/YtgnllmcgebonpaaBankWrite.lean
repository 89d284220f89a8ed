/-
  The contract of write: three Writes, one behind the other.
-/
import Derived.Test.YtgnllmcgebonpaaBankLoad
import Derived.Test.YtgnllmcgebonpaaFlashSim
import Derived.Test.YtgnllmcgebonpaaPut
namespace Go.Proofs.Ytgnllmcgebonpaa
open Go.ChangeShapes Go.WideShapes Go.ChangeAt Go.RowKit

/-- Three Writes into a bank at a place: no sign, what is behind it, the sign; the first that is refused ends it. -/
def threeE {σ : Type} (E : σ → Int → List UInt8 → Nat) (S : σ → Int → List UInt8 → σ) (s : σ) (p : Int) (B : List UInt8) : Nat :=
  if E s p [0] ≠ 0 then E s p [0] else if E (S s p [0]) (p + 1) B ≠ 0 then E (S s p [0]) (p + 1) B else E (S (S s p [0]) (p + 1) B) p [90]
def threeS {σ : Type} (E : σ → Int → List UInt8 → Nat) (S : σ → Int → List UInt8 → σ) (s : σ) (p : Int) (B : List UInt8) : σ :=
  if E s p [0] ≠ 0 then S s p [0] else if E (S s p [0]) (p + 1) B ≠ 0 then S (S s p [0]) (p + 1) B else S (S (S s p [0]) (p + 1) B) p [90]
/-- What is behind the sign. -/
def bodyL (z : Nat) (l : List UInt8) : List UInt8 := fixL (w4s [z] ++ l)

theorem Left.next {w w1 w2 : World} {F : Nat → Prop} {g : Nat} {s : PS} (h : Left PF w F g s w1) (hb : Below w1.heap.size w1 w2) : Left PF w F g s w2 := by
  obtain ⟨F1, h1, h2, h3⟩ := h
  exact ⟨F1, pf_kept.below h1 hb, h2.trans (Apart.of_below (F := F) hb) (fun i hi => .inl hi), h3⟩
theorem Left.sees {w w1 : World} {F : Nat → Prop} {g : Nat} {s : PS} (h : Left PF w F g s w1) {x : Option Addr} {cx : Nat} {l : List UInt8} (hx : Sees w x cx l) (hxn : ∀ bb off, x = some ⟨bb, off, none⟩ → l ≠ [] → ¬ F bb) : Sees w1 x cx l := by
  obtain ⟨F1, h1, h2, h3⟩ := h
  exact h2.sees hx hxn
theorem Left.ba {w w1 : World} {F : Nat → Prop} {g : Nat} {s : PS} (h : Left PF w F g s w1) {b A N : Nat} (hB : BA w b g A N) (hF : ¬ F b) : BA w1 b g A N := by
  obtain ⟨F1, h1, h2, h3⟩ := h
  show w1.heap[b]? = _
  rw [h2.block b hB.lt hF]; exact hB
theorem Left.wsize {w w1 : World} {F : Nat → Prop} {g : Nat} {s : PS} (h : Left PF w F g s w1) : w.heap.size ≤ w1.heap.size := by
  obtain ⟨F1, h1, h2, h3⟩ := h
  exact h2.size
/-- A Write of bytes that are newer than the flash. -/
theorem write_new {w w1 w2 : World} {F : Nat → Prop} {g : Nat} {s : PS} (h : Left PF w F g s w1) (hb : Below w1.heap.size w1 w2) (hn : s.n ≤ 1000000) (a : Int) (ha : (Lit.int .i64 a).wf = true) (x : Option Addr) (cx : Nat) (l : List UInt8) (hx : Sees w2 x cx l) (hxn : ∀ bb off, x = some ⟨bb, off, none⟩ → l ≠ [] → w1.heap.size ≤ bb) (E : Nat) (hE : E = writeE s a l) (S : PS) (hS : S = writeS s a l) :
    Calls Try.prog 9 #[.pointer (some ⟨g, 0, none⟩), .int .i64 a, .slice x l.length cx] w2 fun e w' => e = .returned (.int .i64 (E : Int)) ∧ Left PF w F g S w' := by
  obtain ⟨F1, h1, h2, h3⟩ := h
  rw [hE, hS]
  refine (write_ok w2 g s F1 (pf_kept.below h1 hb) hn a ha x cx l hx (fun bb off he hne hF => ?_)).mono ?_
  · have := hxn bb off he hne; have := pf_kept.lt h1 bb hF; omega
  · rintro e w' ⟨rfl, F2, k1, k2, k3⟩
    have h4 : Apart F w w2 := h2.trans (Apart.of_below (F := F) hb) (fun i hi => .inl hi)
    refine ⟨rfl, F2, k1, h4.trans k2 h3, fun k hk => ?_⟩
    rcases k3 k hk with h5 | h5
    · exact h3 k h5
    · right; have := h4.size; omega

/-- Number and record with their sum, in memory of the call's own. -/
theorem below_words (w : World) (z : Nat) : Below w.heap.size w (w.alloc (.cells #[.int .u32 (z : Int)] 48)) := (Below.refl _ _).alloc (Nat.le_refl _) _

set_option maxHeartbeats 3200000 in
set_option maxRecDepth 20000 in
theorem bwrite_ok (w : World) (b g A N : Nat) (s : PS) (F : Nat → Prop) (h : BK w b g A N s F) (hFb : ¬ F b) (hn : s.n ≤ 999990) (k : Nat) (hk : k ≤ 1) (z : Nat) (hz : z < 4294967296) (x : Option Addr) (cx : Nat) (l : List UInt8) (hx : Sees w x cx l) (hxn : ∀ bb off, x = some ⟨bb, off, none⟩ → l ≠ [] → ¬ F bb) (hl : l.length = N) (P : Nat) (hP : P = A + k * (N + 8)) (E : Nat) (hE : E = threeE writeE writeS s P (bodyL z l)) (S : PS) (hS : S = threeS writeE writeS s P (bodyL z l)) :
    Calls Try.prog 35 #[.pointer (some ⟨b, 0, none⟩), .int .i64 (k : Int), .int .u32 (z : Int), .slice x l.length cx] w fun e w' => e = .returned (.int .i64 (E : Int)) ∧ Left PF w F g S w' := by
  have HL0 : Hid (Left PF w F g s w) := ⟨F, h.fl, Apart.refl _ _, fun _ h => .inl h⟩
  have hpl := place_ok w b g A N k P h.bk h.hA h.small hk hP
  have hPl : P ≤ 5000 := by
    have := h.hA; have := h.small
    have : k * (N + 8) ≤ 1 * (N + 8) := Nat.mul_le_mul_right _ hk
    omega
  have HX : Hid (∀ w1 s1, Left PF w F g s1 w1 → Sees w1 x cx l ∧ BA w1 b g A N) := fun w1 s1 hl1 => ⟨hl1.sees hx hxn, hl1.ba h.bk hFb⟩
  have hN := h.small
  have wf1 : (Lit.int .i64 (P : Int)).wf = true := wf_i64 _ (by omega) (by omega)
  have wf2 : (Lit.int .i64 ((P : Int) + 1)).wf = true := wf_i64 _ (by omega) (by omega)
  obtain ⟨s1, hs1⟩ : ∃ s1, s1 = writeS s P [0] := ⟨_, rfl⟩
  obtain ⟨E1, hE1⟩ : ∃ E1, E1 = writeE s P [0] := ⟨_, rfl⟩
  have hn1 : s1.n ≤ 999991 := by rw [hs1]; have := write_n s P [0]; omega
  have W1 : Hid (∀ w1, Left PF w F g s w1 → Calls Try.prog 9 #[.pointer (some ⟨g, 0, none⟩), .int .i64 (P : Int), .slice (some ⟨w1.heap.size, 0, none⟩) 1 1] (w1.alloc (.cells #[.int .u8 0] 5)) fun e w' => e = .returned (.int .i64 (E1 : Int)) ∧ Left PF w F g s1 w') := fun w1 hl1 =>
    write_new hl1 ((Below.refl _ _).alloc (Nat.le_refl _) _) (by omega) _ wf1 _ 1 [0] (sees_lit w1 [0] 5 (0, 0) (by simp)) (fun bb off he _ => by simp only [Option.some.injEq, Addr.mk.injEq] at he; omega) E1 hE1 s1 hs1
  clear hx hxn h hk hP
  by_cases h1 : E1 = 0
  · obtain ⟨B, hB⟩ : ∃ B, B = bodyL z l := ⟨_, rfl⟩
    obtain ⟨s2, hs2⟩ : ∃ s2, s2 = writeS s1 ((P : Int) + 1) B := ⟨_, rfl⟩
    obtain ⟨E2, hE2⟩ : ∃ E2, E2 = writeE s1 ((P : Int) + 1) B := ⟨_, rfl⟩
    have hn2 : s2.n ≤ 999992 := by rw [hs2]; have := write_n s1 ((P : Int) + 1) B; omega
    obtain ⟨s3, hs3⟩ : ∃ s3, s3 = writeS s2 P [90] := ⟨_, rfl⟩
    obtain ⟨E3, hE3⟩ : ∃ E3, E3 = writeE s2 P [90] := ⟨_, rfl⟩
    have W2 : Hid (∀ w1 w2 y cy, Left PF w F g s1 w1 → Below w1.heap.size w1 w2 → Sees w2 y cy B → (∀ bb off, y = some ⟨bb, off, none⟩ → B ≠ [] → w1.heap.size ≤ bb) → Calls Try.prog 9 #[.pointer (some ⟨g, 0, none⟩), .int .i64 ((P : Int) + 1), .slice y B.length cy] w2 fun e w' => e = .returned (.int .i64 (E2 : Int)) ∧ Left PF w F g s2 w') := fun w1 w2 y cy hl1 hb hy hyn =>
      write_new hl1 hb (by omega) _ wf2 y cy B hy hyn E2 hE2 s2 hs2
    have W3 : Hid (∀ w1, Left PF w F g s2 w1 → Calls Try.prog 9 #[.pointer (some ⟨g, 0, none⟩), .int .i64 (P : Int), .slice (some ⟨w1.heap.size, 0, none⟩) 1 1] (w1.alloc (.cells #[.int .u8 90] 5)) fun e w' => e = .returned (.int .i64 (E3 : Int)) ∧ Left PF w F g s3 w') := fun w1 hl1 =>
      write_new hl1 ((Below.refl _ _).alloc (Nat.le_refl _) _) (by omega) _ wf1 _ 1 [90] (sees_lit w1 [90] 5 (0, 0) (by simp)) (fun bb off he _ => by simp only [Option.some.injEq, Addr.mk.injEq] at he; omega) E3 hE3 s3 hs3
    have HES : Hid ((E = if E2 ≠ 0 then E2 else E3) ∧ S = if E2 ≠ 0 then s2 else s3) := by
      rw [← hB] at hE hS
      constructor
      · rw [hE, threeE, ← hE1, ← hs1, if_neg (by omega), ← hE2, ← hs2, ← hE3]
      · rw [hS, threeS, ← hE1, ← hs1, if_neg (by omega), ← hE2, ← hs2, ← hs3]
    have HB : Hid (B = bodyL z l) := hB
    subst h1
    clear hE1 hs1 hE2 hs2 hE3 hs3 hE hS hB wf1 wf2
    have HLL : Hid (l.length ≤ 64) := by show l.length ≤ 64; omega
    clear hl
    go_enter Try.func35, Try.ntmps35
    go_wp2_with fail
    refine hpl.mono ?_
    rintro e w1 ⟨rfl, hb1⟩
    clear hpl
    have HL1 : Hid (Left PF w F g s w1) := HL0.out.next hb1
    have c0 := (HX.out _ _ HL1.out).2.c0
    have k1 := W1.out w1 HL1.out
    clear W1 HL0
    go_wp2_with fail
    refine k1.mono ?_
    rintro e w2 ⟨rfl, hl2⟩
    have HL2 : Hid (Left PF w F g s1 w2) := hl2
    clear k1 hl2 c0
    obtain ⟨V, hV⟩ : ∃ V, V = w2.alloc (.cells #[.int .u32 (z : Int)] 48) := ⟨_, rfl⟩
    have hbV : Below w2.heap.size w2 V := by rw [hV]; exact below_words w2 z
    have kp : Calls Try.prog 53 #[.slice none 0 0, .slice (some ⟨w2.heap.size, 0, none⟩) 1 1] V _ := put_own V none (some ⟨w2.heap.size, 0, none⟩) 0 1 [] [z] (Sees.nil' V) (by rw [hV]; exact Words.lit w2 48 [z] (by simp) (by simpa using hz)) (by simp) (by simp)
    go_wp2_with fail
    rw [← hV]
    refine kp.mono ?_
    rintro e w3 ⟨d, cd, r, hr, rfl, hs3, hb3, ho3⟩
    have hbz := hbV.trans (hb3.mono hbV.size)
    clear kp hV hs3
    obtain ⟨hsx, hba⟩ := HX.out _ _ HL2.out
    obtain ⟨v4, w4', hrun, ho4, hbe4⟩ := append_own_any w3 V.heap.size (.slice d r.length cd) r ho3 x cx l (hsx.below hbz) (by rw [hr.out]; have := HLL.out; simp [w4s_length]; omega) hb3.size
    have HA : Hid ((Builtin.append_ #[22, 22] 22 #[.slice d r.length cd, .slice x l.length cx]).run Try.prog w3 = .ok v4 w4') := hrun
    obtain ⟨d4, cd4, hv4, hs4⟩ := Sees.of_own ho4
    subst hv4
    have hb4 : Below w2.heap.size w2 w4' := hbe4 _ _ hbz hbV.size
    have kf := fix_ok w4' d4 cd4 (r ++ l) hs4 (by rw [hr.out]; have := HLL.out; simp [w4s_length]; omega)
    have HRB : Hid (fixL (r ++ l) = B) := by rw [HB.out, bodyL, hr.out, List.nil_append]; exact (rfl : fixL (w4s [z] ++ l) = fixL (w4s [z] ++ l))
    obtain ⟨q, hq⟩ : ∃ q, q = (r ++ l).length := ⟨_, rfl⟩
    rw [← hq] at HA kf
    clear hrun ho3 ho4 hbe4 hs4 hsx hr hb3 hq
    go_wp2_with (first | (at_builtin; refine wpList_append_run rfl _ _ 22 rfl _ _ _ rfl rfl HA.out ?_))
    refine kf.mono ?_
    rintro e w5 ⟨d5, cd5, r5, hr5, rfl, hs5, hb5, ho5⟩
    have e5 : r5 = B := by rw [hr5.out, HRB.out]
    subst e5
    have hb6 : Below w2.heap.size w2 w5 := hb4.trans (hb5.mono hb4.size)
    have hfr : ∀ bb off, d5 = some ⟨bb, off, none⟩ → r5 ≠ [] → w2.heap.size ≤ bb := fun bb off he _ => by
      rcases ho5.2 with ⟨h0, _⟩ | ⟨g5, cap5, cur5, h0, hlow, _⟩
      · rw [he] at h0; simp at h0
      · rw [he] at h0
        simp only [Value.slice.injEq, Option.some.injEq, Addr.mk.injEq] at h0
        have := hb4.size
        omega
    have c0 := (hba.below hb6).c0
    have k2 := W2.out w2 w5 d5 cd5 HL2.out hb6 hs5 hfr
    have e1 : IntKind.i64.wrap ((P : Int) + 1) = (P : Int) + 1 := by rw [IntKind.wrap_i64]; omega
    clear kf hr5 hs5 hb5 ho5 hfr HRB HA hb4 hba W2 HB hb6 hbV hbz
    go_wp2_with fail
    refine k2.mono ?_
    rintro e w6 ⟨rfl, hl6⟩
    clear k2
    by_cases h2 : E2 = 0
    · have c6 := (HX.out _ _ hl6).2.c0
      have k3 := W3.out w6 hl6
      have HES2 : Hid (E = E3 ∧ S = s3) := by
        obtain ⟨q1, q2⟩ := HES.out
        rw [if_neg (by omega)] at q1 q2
        exact ⟨q1, q2⟩
      subst h2
      clear hl6 W3 HX HES
      go_wp2_with fail
      refine k3.mono ?_
      rintro e w7 ⟨rfl, hl7⟩
      have HL7 : Hid (Left PF w F g S w7) := by rw [HES2.out.2]; exact hl7
      clear k3 hl7
      go_wp2
      go_ret
      exact ⟨by rw [HES2.out.1]; rfl, HL7.out⟩
    · have d2 : ((E2 : Int) == 0) = false := by simp; omega
      have HES2 : Hid (E = E2 ∧ S = s2) := by
        obtain ⟨q1, q2⟩ := HES.out
        rw [if_pos h2] at q1 q2
        exact ⟨q1, q2⟩
      have HL6 : Hid (Left PF w F g S w6) := by rw [HES2.out.2]; exact hl6
      clear hl6 W3 HX HES
      go_wp2
      go_ret
      exact ⟨by rw [HES2.out.1]; rfl, HL6.out⟩
  · have HES : Hid (E = E1 ∧ S = s1) := by
      constructor
      · rw [hE, threeE, ← hE1, if_pos h1]
      · rw [hS, threeS, ← hE1, if_pos h1, hs1]
    have d1 : ((E1 : Int) == 0) = false := by simp; omega
    clear hE1 hs1 hE hS wf1 wf2 hl
    go_enter Try.func35, Try.ntmps35
    go_wp2_with fail
    refine hpl.mono ?_
    rintro e w1 ⟨rfl, hb1⟩
    clear hpl
    have HL1 : Hid (Left PF w F g s w1) := HL0.out.next hb1
    have c0 := (HX.out _ _ HL1.out).2.c0
    have k1 := W1.out w1 HL1.out
    clear W1 HL0 HX
    go_wp2_with fail
    refine k1.mono ?_
    rintro e w2 ⟨rfl, hl2⟩
    have HL2 : Hid (Left PF w F g S w2) := by rw [HES.out.2]; exact hl2
    clear k1 hl2 c0
    go_wp2
    go_ret
    exact ⟨by rw [HES.out.1]; rfl, HL2.out⟩
end Go.Proofs.Ytgnllmcgebonpaa
