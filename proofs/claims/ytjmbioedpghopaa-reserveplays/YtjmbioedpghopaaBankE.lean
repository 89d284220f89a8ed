/-
  The contracts of Load, Number, Fresh and New.

  The contract of write: three Writes, one behind the other.

  The contract of Save.
-/
import Derived.Test.YtjmbioedpghopaaBankD
import Derived.Test.YtjmbioedpghopaaFlashD
import Derived.Test.YtjmbioedpghopaaWord
namespace Go.Proofs.Ytjmbioedpghopaa
open Go.ChangeShapes Go.WideShapes Go.ChangeAt Go.RowKit

/-- A bank of the program's, with its flash. -/
structure BK (w : World) (b g A N : Nat) (s : PS) (F : Nat → Prop) : Prop where
  fl : PF w g s F
  bk : BA w b g A N
  fits : A + 2 * (N + 8) ≤ s.b.length
  small : N ≤ 64
  len : s.b.length ≤ 4096
theorem BK.below {w w' : World} {b g A N : Nat} {s : PS} {F : Nat → Prop} (h : BK w b g A N s F) (hb : Below w.heap.size w w') : BK w' b g A N s F := ⟨pf_kept.below h.fl hb, h.bk.below hb, h.fits, h.small, h.len⟩
theorem BK.hA {w : World} {b g A N : Nat} {s : PS} {F : Nat → Prop} (h : BK w b g A N s F) : A ≤ 4096 := by have := h.fits; have := h.len; omega

/-- What Load, Number and Fresh tell. -/
def loadL (s : PS) (A N : Nat) : List UInt8 := if s.dead = true then [] else match newI s A N with | none => [] | some k => ((rowL s A N k).drop 5).take N
def loadE (s : PS) (A N : Nat) : Nat := if s.dead = true then 5 else match newI s A N with | none => 8 | some _ => 0
def numN (s : PS) (A N : Nat) : Nat := if s.dead = true then 0 else match newI s A N with | none => 0 | some k => numL (rowL s A N k)
def freshB (s : PS) (A N : Nat) : Bool := !s.dead && !signB (rowL s A N 0) && !signB (rowL s A N 1)

theorem load_ok (w : World) (b g A N : Nat) (s : PS) (F : Nat → Prop) (h : BK w b g A N s F) (R : List UInt8) (E : Nat) (hR : R = loadL s A N) (hE : E = loadE s A N) :
    Calls Try.prog 57 #[.pointer (some ⟨b, 0, none⟩)] w fun e w' => ∃ d cd, e = .returned (.tuple #[.slice d R.length cd, .int .i64 (E : Int)]) ∧ Sees w' d cd R ∧ Below w.heap.size w w' := by
  cases hd : s.dead
  · cases hn : newI s A N with
    | none =>
      have hs := newest_none w b g A N s F h.fl h.bk hd h.fits h.small h.len hn
      have e1 : R = [] := by rw [hR, loadL, if_neg (by simp [hd]), hn]
      have e2 : E = 8 := by rw [hE, loadE, if_neg (by simp [hd]), hn]
      subst e1 e2
      clear h hR hE hd hn
      go_enter Try.func57, Try.ntmps57
      go_wp2_with fail
      refine hs.mono ?_
      rintro e w1 ⟨rfl, hb⟩
      clear hs
      go_wp2
      go_ret2
      exact ⟨none, 0, rfl, Sees.nil' _, hb.alloc hb.size _⟩
    | some k =>
      have hs := newest_some w b g A N s F h.fl h.bk hd h.fits h.small h.len k hn
      have e1 : R = ((rowL s A N k).drop 5).take N := by rw [hR, loadL, if_neg (by simp [hd]), hn]
      have e2 : E = 0 := by rw [hE, loadE, if_neg (by simp [hd]), hn]
      have hl := rowL_len s A N k (newI_le hn) h.fits
      have HL : Hid ((rowL s A N k).length = N + 8) := hl
      have HE : Hid (R = ((rowL s A N k).drop 5).take N) := e1
      have HRL : Hid (R.length = N) := by
        show R.length = N
        rw [e1]; simp; omega
      have hN := h.small
      subst e2
      clear h hR hE hd hn hl e1
      go_enter Try.func57, Try.ntmps57
      go_wp2_with fail
      refine hs.mono ?_
      rintro e w1 ⟨d, c, rfl, hr, hb⟩
      have ha : Below w1.heap.size w1 (w1.alloc (.cells #[.slice (some ⟨d, 0, none⟩) (N + 8) c, .int .i64 (k : Int)] 121)) := (Below.refl _ _).alloc (Nat.le_refl _) _
      have hr2 := hr.below ha
      have hrec := record_ok _ d c N _ hr2 HL.out hN
      have HR2 : Hid (Sees (w1.alloc (.cells #[.slice (some ⟨d, 0, none⟩) (N + 8) c, .int .i64 (k : Int)] 121)) (some ⟨d, 5, none⟩) (c - 5) R) := by rw [HE.out]; exact hr2.record HL.out
      clear hs hr hr2
      go_wp2_with fail
      refine hrec.mono ?_
      rintro e w2 ⟨rfl, rfl⟩
      clear hrec
      go_wp2
      go_ret2
      exact ⟨_, c - 5, by rw [HRL.out]; rfl, HR2.out, hb.trans (ha.mono hb.size)⟩
  · have hs := newest_dead w b g A N s F h.fl h.bk hd h.hA h.small
    have e1 : R = [] := by rw [hR, loadL, if_pos hd]
    have e2 : E = 5 := by rw [hE, loadE, if_pos hd]
    subst e1 e2
    clear h hR hE hd
    go_enter Try.func57, Try.ntmps57
    go_wp2_with fail
    refine hs.mono ?_
    rintro e w1 ⟨rfl, hb⟩
    clear hs
    go_wp2
    go_ret2
    exact ⟨none, 0, rfl, Sees.nil' _, hb.alloc hb.size _⟩
theorem fresh_ok (w : World) (b g A N : Nat) (s : PS) (F : Nat → Prop) (h : BK w b g A N s F) (f : Bool) (hf : f = freshB s A N) :
    Calls Try.prog 58 #[.pointer (some ⟨b, 0, none⟩)] w fun e w' => e = .returned (.bool f) ∧ Below w.heap.size w w' := by
  cases hd : s.dead
  · have hs := those_ok "carillon/bank.signed" 72 signB signed_run signed_call (fun W d cd m l h1 h2 _ _ => (signed_ok W d cd m l h1 h2).mono (by rintro e w' ⟨rfl, rfl⟩; exact ⟨rfl, Below.refl _ _⟩)) w b g A N s F h.fl h.bk hd h.fits h.small h.len
    have HF : Hid (∀ L : List It, L.map (·.2.2) = (twoL s A N).filter (fun q => signB q.1) → ((L.length : Int) == 0) = f) := by
      intro L hL
      have h1 := congrArg List.length hL
      rw [List.length_map] at h1
      rw [hf, freshB, hd]
      cases hx : signB (rowL s A N 0) <;> cases hy : signB (rowL s A N 1) <;> (simp [twoL, hx, hy] at h1; rw [h1]; rfl)
    clear h hf hd
    go_enter Try.func58, Try.ntmps58
    go_wp2_with fail
    refine hs.mono ?_
    rintro e w1 ⟨v, L, rfl, hown, hrows, hmap, hb⟩
    have hlen := HF.out L hmap
    obtain ⟨a, n, cap, hn, rfl⟩ : ∃ a n cap, n = L.length ∧ v = .slice a n cap := by
      rcases hown.2 with ⟨rfl, h0⟩ | ⟨g, cap, cur, rfl, _⟩
      · exact ⟨none, 0, 0, h0.symm, rfl⟩
      · exact ⟨_, _, cap, rfl, rfl⟩
    rw [← hn] at hlen
    clear hs hown hrows hmap HF hn
    go_wp2
    go_ret
    exact ⟨rfl, hb⟩
  · have hs := those_dead (.func (.methodOf 121 "carillon/bank.signed") #[] #[]) w b g A N s F h.fl h.bk hd h.hA h.small
    have e1 : f = false := by rw [hf, freshB, hd]; rfl
    subst e1
    clear h hf hd
    go_enter Try.func58, Try.ntmps58
    go_wp2_with fail
    refine hs.mono ?_
    rintro e w1 ⟨rfl, hb⟩
    clear hs
    go_wp2
    go_ret
    exact ⟨rfl, hb⟩
end Go.Proofs.Ytjmbioedpghopaa

namespace Go.Proofs.Ytjmbioedpghopaa
open Go.ChangeShapes Go.WideShapes Go.ChangeAt Go.RowKit

/-- Three Writes into a bank at a place: no sign, what is behind it, the sign; the first that is refused ends it. -/
def threeE {σ : Type} (E : σ → Int → List UInt8 → Nat) (S : σ → Int → List UInt8 → σ) (s : σ) (p : Int) (B : List UInt8) : Nat :=
  if E s p [0] ≠ 0 then E s p [0] else if E (S s p [0]) (p + 1) B ≠ 0 then E (S s p [0]) (p + 1) B else E (S (S s p [0]) (p + 1) B) p [90]
def threeS {σ : Type} (E : σ → Int → List UInt8 → Nat) (S : σ → Int → List UInt8 → σ) (s : σ) (p : Int) (B : List UInt8) : σ :=
  if E s p [0] ≠ 0 then S s p [0] else if E (S s p [0]) (p + 1) B ≠ 0 then S (S s p [0]) (p + 1) B else S (S (S s p [0]) (p + 1) B) p [90]
/-- What is behind the sign. -/
def bodyL (z : Nat) (l : List UInt8) : List UInt8 := fixL (w4s [z] ++ l)

theorem Left.next {w w1 w2 : World} {F : Nat → Prop} {g : Nat} {s : PS} (h : Left PF w F g s w1) (hb : Below w1.heap.size w1 w2) : Left PF w F g s w2 := by
  obtain ⟨F1, h1, h2, h3⟩ := h
  exact ⟨F1, pf_kept.below h1 hb, h2.trans (Apart.of_below (F := F) hb) (fun i hi => .inl hi), h3⟩
theorem Left.sees {w w1 : World} {F : Nat → Prop} {g : Nat} {s : PS} (h : Left PF w F g s w1) {x : Option Addr} {cx : Nat} {l : List UInt8} (hx : Sees w x cx l) (hxn : ∀ bb off, x = some ⟨bb, off, none⟩ → l ≠ [] → ¬ F bb) : Sees w1 x cx l := by
  obtain ⟨F1, h1, h2, h3⟩ := h
  exact h2.sees hx hxn
theorem Left.ba {w w1 : World} {F : Nat → Prop} {g : Nat} {s : PS} (h : Left PF w F g s w1) {b A N : Nat} (hB : BA w b g A N) (hF : ¬ F b) : BA w1 b g A N := by
  obtain ⟨F1, h1, h2, h3⟩ := h
  show w1.heap[b]? = _
  rw [h2.block b hB.lt hF]; exact hB
theorem Left.wsize {w w1 : World} {F : Nat → Prop} {g : Nat} {s : PS} (h : Left PF w F g s w1) : w.heap.size ≤ w1.heap.size := by
  obtain ⟨F1, h1, h2, h3⟩ := h
  exact h2.size
/-- A Write of bytes that are newer than the flash. -/
theorem write_new {w w1 w2 : World} {F : Nat → Prop} {g : Nat} {s : PS} (h : Left PF w F g s w1) (hb : Below w1.heap.size w1 w2) (hn : s.n ≤ 1000000) (a : Int) (ha : (Lit.int .i64 a).wf = true) (x : Option Addr) (cx : Nat) (l : List UInt8) (hx : Sees w2 x cx l) (hxn : ∀ bb off, x = some ⟨bb, off, none⟩ → l ≠ [] → w1.heap.size ≤ bb) (E : Nat) (hE : E = writeE s a l) (S : PS) (hS : S = writeS s a l) :
    Calls Try.prog 9 #[.pointer (some ⟨g, 0, none⟩), .int .i64 a, .slice x l.length cx] w2 fun e w' => e = .returned (.int .i64 (E : Int)) ∧ Left PF w F g S w' := by
  obtain ⟨F1, h1, h2, h3⟩ := h
  rw [hE, hS]
  refine (write_ok w2 g s F1 (pf_kept.below h1 hb) hn a ha x cx l hx (fun bb off he hne hF => ?_)).mono ?_
  · have := hxn bb off he hne; have := pf_kept.lt h1 bb hF; omega
  · rintro e w' ⟨rfl, F2, k1, k2, k3⟩
    have h4 : Apart F w w2 := h2.trans (Apart.of_below (F := F) hb) (fun i hi => .inl hi)
    refine ⟨rfl, F2, k1, h4.trans k2 h3, fun k hk => ?_⟩
    rcases k3 k hk with h5 | h5
    · exact h3 k h5
    · right; have := h4.size; omega

/-- Number and record with their sum, in memory of the call's own. -/
theorem below_words (w : World) (z : Nat) : Below w.heap.size w (w.alloc (.cells #[.int .u32 (z : Int)] 56)) := (Below.refl _ _).alloc (Nat.le_refl _) _

set_option maxHeartbeats 3200000 in
set_option maxRecDepth 20000 in
theorem bwrite_ok (w : World) (b g A N : Nat) (s : PS) (F : Nat → Prop) (h : BK w b g A N s F) (hFb : ¬ F b) (hn : s.n ≤ 999990) (k : Nat) (hk : k ≤ 1) (z : Nat) (hz : z < 4294967296) (x : Option Addr) (cx : Nat) (l : List UInt8) (hx : Sees w x cx l) (hxn : ∀ bb off, x = some ⟨bb, off, none⟩ → l ≠ [] → ¬ F bb) (hl : l.length = N) (P : Nat) (hP : P = A + k * (N + 8)) (E : Nat) (hE : E = threeE writeE writeS s P (bodyL z l)) (S : PS) (hS : S = threeS writeE writeS s P (bodyL z l)) :
    Calls Try.prog 66 #[.pointer (some ⟨b, 0, none⟩), .int .i64 (k : Int), .int .u32 (z : Int), .slice x l.length cx] w fun e w' => e = .returned (.int .i64 (E : Int)) ∧ Left PF w F g S w' := by
  have HL0 : Hid (Left PF w F g s w) := ⟨F, h.fl, Apart.refl _ _, fun _ h => .inl h⟩
  have hpl := place_ok w b g A N k P h.bk h.hA h.small hk hP
  have hPl : P ≤ 5000 := by
    have := h.hA; have := h.small
    have : k * (N + 8) ≤ 1 * (N + 8) := Nat.mul_le_mul_right _ hk
    omega
  have HX : Hid (∀ w1 s1, Left PF w F g s1 w1 → Sees w1 x cx l ∧ BA w1 b g A N) := fun w1 s1 hl1 => ⟨hl1.sees hx hxn, hl1.ba h.bk hFb⟩
  have hN := h.small
  have wf1 : (Lit.int .i64 (P : Int)).wf = true := wf_i64 _ (by omega) (by omega)
  have wf2 : (Lit.int .i64 ((P : Int) + 1)).wf = true := wf_i64 _ (by omega) (by omega)
  obtain ⟨s1, hs1⟩ : ∃ s1, s1 = writeS s P [0] := ⟨_, rfl⟩
  obtain ⟨E1, hE1⟩ : ∃ E1, E1 = writeE s P [0] := ⟨_, rfl⟩
  have hn1 : s1.n ≤ 999991 := by rw [hs1]; have := write_n s P [0]; omega
  have W1 : Hid (∀ w1, Left PF w F g s w1 → Calls Try.prog 9 #[.pointer (some ⟨g, 0, none⟩), .int .i64 (P : Int), .slice (some ⟨w1.heap.size, 0, none⟩) 1 1] (w1.alloc (.cells #[.int .u8 0] 5)) fun e w' => e = .returned (.int .i64 (E1 : Int)) ∧ Left PF w F g s1 w') := fun w1 hl1 =>
    write_new hl1 ((Below.refl _ _).alloc (Nat.le_refl _) _) (by omega) _ wf1 _ 1 [0] (sees_lit w1 [0] 5 (0, 0) (by simp)) (fun bb off he _ => by simp only [Option.some.injEq, Addr.mk.injEq] at he; omega) E1 hE1 s1 hs1
  clear hx hxn h hk hP
  by_cases h1 : E1 = 0
  · obtain ⟨B, hB⟩ : ∃ B, B = bodyL z l := ⟨_, rfl⟩
    obtain ⟨s2, hs2⟩ : ∃ s2, s2 = writeS s1 ((P : Int) + 1) B := ⟨_, rfl⟩
    obtain ⟨E2, hE2⟩ : ∃ E2, E2 = writeE s1 ((P : Int) + 1) B := ⟨_, rfl⟩
    have hn2 : s2.n ≤ 999992 := by rw [hs2]; have := write_n s1 ((P : Int) + 1) B; omega
    obtain ⟨s3, hs3⟩ : ∃ s3, s3 = writeS s2 P [90] := ⟨_, rfl⟩
    obtain ⟨E3, hE3⟩ : ∃ E3, E3 = writeE s2 P [90] := ⟨_, rfl⟩
    have W2 : Hid (∀ w1 w2 y cy, Left PF w F g s1 w1 → Below w1.heap.size w1 w2 → Sees w2 y cy B → (∀ bb off, y = some ⟨bb, off, none⟩ → B ≠ [] → w1.heap.size ≤ bb) → Calls Try.prog 9 #[.pointer (some ⟨g, 0, none⟩), .int .i64 ((P : Int) + 1), .slice y B.length cy] w2 fun e w' => e = .returned (.int .i64 (E2 : Int)) ∧ Left PF w F g s2 w') := fun w1 w2 y cy hl1 hb hy hyn =>
      write_new hl1 hb (by omega) _ wf2 y cy B hy hyn E2 hE2 s2 hs2
    have W3 : Hid (∀ w1, Left PF w F g s2 w1 → Calls Try.prog 9 #[.pointer (some ⟨g, 0, none⟩), .int .i64 (P : Int), .slice (some ⟨w1.heap.size, 0, none⟩) 1 1] (w1.alloc (.cells #[.int .u8 90] 5)) fun e w' => e = .returned (.int .i64 (E3 : Int)) ∧ Left PF w F g s3 w') := fun w1 hl1 =>
      write_new hl1 ((Below.refl _ _).alloc (Nat.le_refl _) _) (by omega) _ wf1 _ 1 [90] (sees_lit w1 [90] 5 (0, 0) (by simp)) (fun bb off he _ => by simp only [Option.some.injEq, Addr.mk.injEq] at he; omega) E3 hE3 s3 hs3
    have HES : Hid ((E = if E2 ≠ 0 then E2 else E3) ∧ S = if E2 ≠ 0 then s2 else s3) := by
      rw [← hB] at hE hS
      constructor
      · rw [hE, threeE, ← hE1, ← hs1, if_neg (by omega), ← hE2, ← hs2, ← hE3]
      · rw [hS, threeS, ← hE1, ← hs1, if_neg (by omega), ← hE2, ← hs2, ← hs3]
    have HB : Hid (B = bodyL z l) := hB
    subst h1
    clear hE1 hs1 hE2 hs2 hE3 hs3 hE hS hB wf1 wf2
    have HLL : Hid (l.length ≤ 64) := by show l.length ≤ 64; omega
    clear hl
    go_enter Try.func66, Try.ntmps66
    go_wp2_with fail
    refine hpl.mono ?_
    rintro e w1 ⟨rfl, hb1⟩
    clear hpl
    have HL1 : Hid (Left PF w F g s w1) := HL0.out.next hb1
    have c0 := (HX.out _ _ HL1.out).2.c0
    have k1 := W1.out w1 HL1.out
    clear W1 HL0
    go_wp2_with fail
    refine k1.mono ?_
    rintro e w2 ⟨rfl, hl2⟩
    have HL2 : Hid (Left PF w F g s1 w2) := hl2
    clear k1 hl2 c0
    obtain ⟨V, hV⟩ : ∃ V, V = w2.alloc (.cells #[.int .u32 (z : Int)] 56) := ⟨_, rfl⟩
    have hbV : Below w2.heap.size w2 V := by rw [hV]; exact below_words w2 z
    have kp : Calls Try.prog 53 #[.slice none 0 0, .slice (some ⟨w2.heap.size, 0, none⟩) 1 1] V _ := put_own V none (some ⟨w2.heap.size, 0, none⟩) 0 1 [] [z] (Sees.nil' V) (by rw [hV]; exact Words.lit w2 56 [z] (by simp) (by simpa using hz)) (by simp) (by simp)
    go_wp2_with fail
    rw [← hV]
    refine kp.mono ?_
    rintro e w3 ⟨d, cd, r, hr, rfl, hs3, hb3, ho3⟩
    have hbz := hbV.trans (hb3.mono hbV.size)
    clear kp hV hs3
    obtain ⟨hsx, hba⟩ := HX.out _ _ HL2.out
    obtain ⟨v4, w4', hrun, ho4, hbe4⟩ := append_own_any w3 V.heap.size (.slice d r.length cd) r ho3 x cx l (hsx.below hbz) (by rw [hr.out]; have := HLL.out; simp [w4s_length]; omega) hb3.size
    have HA : Hid ((Builtin.append_ #[22, 22] 22 #[.slice d r.length cd, .slice x l.length cx]).run Try.prog w3 = .ok v4 w4') := hrun
    obtain ⟨d4, cd4, hv4, hs4⟩ := Sees.of_own ho4
    subst hv4
    have hb4 : Below w2.heap.size w2 w4' := hbe4 _ _ hbz hbV.size
    have kf := fix_ok w4' d4 cd4 (r ++ l) hs4 (by rw [hr.out]; have := HLL.out; simp [w4s_length]; omega)
    have HRB : Hid (fixL (r ++ l) = B) := by rw [HB.out, bodyL, hr.out, List.nil_append]; exact (rfl : fixL (w4s [z] ++ l) = fixL (w4s [z] ++ l))
    obtain ⟨q, hq⟩ : ∃ q, q = (r ++ l).length := ⟨_, rfl⟩
    rw [← hq] at HA kf
    clear hrun ho3 ho4 hbe4 hs4 hsx hr hb3 hq
    go_wp2_with (first | (at_builtin; refine wpList_append_run rfl _ _ 22 rfl _ _ _ rfl rfl HA.out ?_))
    refine kf.mono ?_
    rintro e w5 ⟨d5, cd5, r5, hr5, rfl, hs5, hb5, ho5⟩
    have e5 : r5 = B := by rw [hr5.out, HRB.out]
    subst e5
    have hb6 : Below w2.heap.size w2 w5 := hb4.trans (hb5.mono hb4.size)
    have hfr : ∀ bb off, d5 = some ⟨bb, off, none⟩ → r5 ≠ [] → w2.heap.size ≤ bb := fun bb off he _ => by
      rcases ho5.2 with ⟨h0, _⟩ | ⟨g5, cap5, cur5, h0, hlow, _⟩
      · rw [he] at h0; simp at h0
      · rw [he] at h0
        simp only [Value.slice.injEq, Option.some.injEq, Addr.mk.injEq] at h0
        have := hb4.size
        omega
    have c0 := (hba.below hb6).c0
    have k2 := W2.out w2 w5 d5 cd5 HL2.out hb6 hs5 hfr
    have e1 : IntKind.i64.wrap ((P : Int) + 1) = (P : Int) + 1 := by rw [IntKind.wrap_i64]; omega
    clear kf hr5 hs5 hb5 ho5 hfr HRB HA hb4 hba W2 HB hb6 hbV hbz
    go_wp2_with fail
    refine k2.mono ?_
    rintro e w6 ⟨rfl, hl6⟩
    clear k2
    by_cases h2 : E2 = 0
    · have c6 := (HX.out _ _ hl6).2.c0
      have k3 := W3.out w6 hl6
      have HES2 : Hid (E = E3 ∧ S = s3) := by
        obtain ⟨q1, q2⟩ := HES.out
        rw [if_neg (by omega)] at q1 q2
        exact ⟨q1, q2⟩
      subst h2
      clear hl6 W3 HX HES
      go_wp2_with fail
      refine k3.mono ?_
      rintro e w7 ⟨rfl, hl7⟩
      have HL7 : Hid (Left PF w F g S w7) := by rw [HES2.out.2]; exact hl7
      clear k3 hl7
      go_wp2
      go_ret
      exact ⟨by rw [HES2.out.1]; rfl, HL7.out⟩
    · have d2 : ((E2 : Int) == 0) = false := by simp; omega
      have HES2 : Hid (E = E2 ∧ S = s2) := by
        obtain ⟨q1, q2⟩ := HES.out
        rw [if_pos h2] at q1 q2
        exact ⟨q1, q2⟩
      have HL6 : Hid (Left PF w F g S w6) := by rw [HES2.out.2]; exact hl6
      clear hl6 W3 HX HES
      go_wp2
      go_ret
      exact ⟨by rw [HES2.out.1]; rfl, HL6.out⟩
  · have HES : Hid (E = E1 ∧ S = s1) := by
      constructor
      · rw [hE, threeE, ← hE1, if_pos h1]
      · rw [hS, threeS, ← hE1, if_pos h1, hs1]
    have d1 : ((E1 : Int) == 0) = false := by simp; omega
    clear hE1 hs1 hE hS wf1 wf2 hl
    go_enter Try.func66, Try.ntmps66
    go_wp2_with fail
    refine hpl.mono ?_
    rintro e w1 ⟨rfl, hb1⟩
    clear hpl
    have HL1 : Hid (Left PF w F g s w1) := HL0.out.next hb1
    have c0 := (HX.out _ _ HL1.out).2.c0
    have k1 := W1.out w1 HL1.out
    clear W1 HL0 HX
    go_wp2_with fail
    refine k1.mono ?_
    rintro e w2 ⟨rfl, hl2⟩
    have HL2 : Hid (Left PF w F g S w2) := by rw [HES.out.2]; exact hl2
    clear k1 hl2 c0
    go_wp2
    go_ret
    exact ⟨by rw [HES.out.1]; rfl, HL2.out⟩
end Go.Proofs.Ytjmbioedpghopaa

namespace Go.Proofs.Ytjmbioedpghopaa
open Go.ChangeShapes Go.WideShapes Go.ChangeAt Go.RowKit

/-- Where the next record goes to. -/
def slotN (s : PS) (A N : Nat) : Nat := if newI s A N = some 0 then 1 else 0
/-- What Save answers, and what it leaves. -/
def saveE (s : PS) (A N : Nat) (l : List UInt8) : Nat := if l.length ≠ N then 1 else if s.dead = true then 5 else if numN s A N = 4294967294 then 9 else threeE writeE writeS s ((A + slotN s A N * (N + 8) : Nat) : Int) (bodyL (numN s A N + 1) l)
def saveS (s : PS) (A N : Nat) (l : List UInt8) : PS := if l.length ≠ N then s else if s.dead = true then s else if numN s A N = 4294967294 then s else threeS writeE writeS s ((A + slotN s A N * (N + 8) : Nat) : Int) (bodyL (numN s A N + 1) l)

theorem Left.before {w w1 w2 : World} {F : Nat → Prop} {g : Nat} {s : PS} (h : Left PF w1 F g s w2) (hb : Below w.heap.size w w1) : Left PF w F g s w2 := by
  obtain ⟨F1, h1, h2, h3⟩ := h
  refine ⟨F1, h1, (Apart.of_below (F := F) hb).trans h2 (fun i hi => .inl hi), fun k hk => ?_⟩
  rcases h3 k hk with h4 | h4
  · exact .inl h4
  · right; have := hb.size; omega
theorem Left.refl {w : World} {F : Nat → Prop} {g : Nat} {s : PS} (h : PF w g s F) : Left PF w F g s w := ⟨F, h, Apart.refl _ _, fun _ h => .inl h⟩
theorem Left.cont {w w1 : World} {F : Nat → Prop} {g : Nat} {s : PS} (h : Left PF w F g s w1) {q : Nat} {x y : Value} (hc : Cont w q x y) (hF : ¬ F q) : Cont w1 q x y := by
  obtain ⟨F1, h1, h2, h3⟩ := h
  show w1.heap[q]? = _
  rw [h2.block q hc.lt hF]; exact hc
theorem wholeB_num {l : List UInt8} (h : wholeB l = true) : numL l ≠ 4294967295 := by
  unfold wholeB at h
  simp at h
  exact h.2
theorem newI_whole {s : PS} {A N k : Nat} (h : newI s A N = some k) : wholeB (rowL s A N k) = true := by
  unfold newI newR at h
  split at h
  · rename_i h1
    simp at h h1
    subst h
    exact h1.1
  · split at h
    · rename_i h1
      simp at h
      subst h
      exact h1
    · simp at h

set_option maxHeartbeats 3200000 in
set_option maxRecDepth 20000 in
theorem save_ok (w : World) (b g A N : Nat) (s : PS) (F : Nat → Prop) (h : BK w b g A N s F) (hFb : ¬ F b) (hn : s.n ≤ 999990) (x : Option Addr) (cx : Nat) (l : List UInt8) (hx : Sees w x cx l) (hxn : ∀ bb off, x = some ⟨bb, off, none⟩ → l ≠ [] → ¬ F bb) (E : Nat) (hE : E = saveE s A N l) (S : PS) (hS : S = saveS s A N l) :
    Calls Try.prog 52 #[.pointer (some ⟨b, 0, none⟩), .slice x l.length cx] w fun e w' => e = .returned (.int .i64 (E : Int)) ∧ Left PF w F g S w' := by
  have hst := bstands_ok w b g A N h.bk
  have c2 := h.bk.c2
  have hll : l.length ≤ 9223372036854775807 := by have := hx.fits; have := hx.room; unfold maxLen at this; omega
  have HL0 : Hid (Left PF w F g s w) := Left.refl h.fl
  by_cases hl : l.length = N
  · have hlN : ((l.length : Int) == (N : Int)) = true := by simp [hl]
    have hlN2 : (l.length : Int) = (N : Int) := by omega
    cases hd : s.dead
    · have hbd : ∀ k, F k → k < w.heap.size := pf_kept.lt h.fl
      have HW : Hid (∀ (W : World) (k z P : Nat), Below w.heap.size w W → k ≤ 1 → z < 4294967296 → P = A + k * (N + 8) → ∀ E S, E = threeE writeE writeS s P (bodyL z l) → S = threeS writeE writeS s P (bodyL z l) → Calls Try.prog 66 #[.pointer (some ⟨b, 0, none⟩), .int .i64 (k : Int), .int .u32 (z : Int), .slice x l.length cx] W fun e w' => e = .returned (.int .i64 (E : Int)) ∧ Left PF W F g S w') := fun W k z P hb hk hz hP E S hE hS =>
        bwrite_ok W b g A N s F (h.below hb) hFb hn k hk z hz x cx l (hx.below hb) hxn hl P hP E hE S hS
      cases hnw : newI s A N with
      | none =>
        have hs := newest_none w b g A N s F h.fl h.bk hd h.fits h.small h.len hnw
        have hz : numN s A N = 0 := by rw [numN, if_neg (by simp [hd]), hnw]
        have hsl : slotN s A N = 0 := by rw [slotN, hnw, if_neg (by simp)]
        have HE : Hid (E = threeE writeE writeS s (A : Nat) (bodyL 1 l) ∧ S = threeS writeE writeS s (A : Nat) (bodyL 1 l)) := by
          constructor
          · rw [hE, saveE, if_neg (by simp [hl]), if_neg (by simp [hd]), hz, if_neg (by decide), hsl, Nat.zero_mul, Nat.add_zero]
          · rw [hS, saveS, if_neg (by simp [hl]), if_neg (by simp [hd]), hz, if_neg (by decide), hsl, Nat.zero_mul, Nat.add_zero]
        clear h hx hxn hE hS hd hnw hz hsl hl
        go_enter Try.func52, Try.ntmps52
        go_wp2_with fail
        refine hst.mono ?_
        rintro e w1 ⟨rfl, rfl⟩
        clear hst
        go_wp2_with fail
        refine hs.mono ?_
        rintro e w2 ⟨rfl, hb⟩
        clear hs
        have hb2 := hb.alloc hb.size (.cells #[.slice none 0 0, .int .i64 0] 121)
        have k1 := HW.out _ 0 1 A hb2 (by omega) (by omega) (by omega) E S HE.out.1 HE.out.2
        rw [show ((0 : Nat) : Int) = 0 from rfl, show ((1 : Nat) : Int) = 1 from rfl] at k1
        clear HW hb
        go_wp2_with fail
        refine k1.mono ?_
        rintro e w3 ⟨rfl, hl3⟩
        have HL3 : Hid (Left PF w1 F g S w3) := hl3.before hb2
        clear k1 hl3
        go_wp2
        go_ret
        exact ⟨rfl, HL3.out⟩
      | some k =>
        have hs := newest_some w b g A N s F h.fl h.bk hd h.fits h.small h.len k hnw
        obtain ⟨z, hz⟩ : ∃ z, z = numL (rowL s A N k) := ⟨_, rfl⟩
        have hzN : numN s A N = z := by rw [numN, if_neg (by simp [hd]), hnw, hz]
        have hk1 := newI_le hnw
        have hrl := rowL_len s A N k hk1 h.fits
        have hzl : z < 4294967295 := by
          have h1 := numL_lt (rowL s A N k) (by omega)
          have h2 := wholeB_num (newI_whole hnw)
          omega
        have HNM : Hid (∀ W d c, RowAt W d c (rowL s A N k) → Calls Try.prog 67 #[.slice (some ⟨d, 0, none⟩) (N + 8) c] W fun e w' => e = .returned (.int .u32 (z : Int)) ∧ w' = W) := fun W d c hr => number_ok W d c _ (N + 8) hr hrl (by omega) z hz
        by_cases hfull : z = 4294967294
        · have HE : Hid (E = 9 ∧ S = s) := by
            constructor
            · rw [hE, saveE, if_neg (by simp [hl]), if_neg (by simp [hd]), hzN, if_pos hfull]
            · rw [hS, saveS, if_neg (by simp [hl]), if_neg (by simp [hd]), hzN, if_pos hfull]
          subst hfull
          clear h hx hxn hE hS hd hnw hz hzN hl HW hrl
          go_enter Try.func52, Try.ntmps52
          go_wp2_with fail
          refine hst.mono ?_
          rintro e w1 ⟨rfl, rfl⟩
          clear hst
          go_wp2_with fail
          refine hs.mono ?_
          rintro e w2 ⟨d, c, rfl, hr, hb⟩
          clear hs
          have ha : Below w2.heap.size w2 (w2.alloc (.cells #[.slice (some ⟨d, 0, none⟩) (N + 8) c, .int .i64 (k : Int)] 121)) := (Below.refl _ _).alloc (Nat.le_refl _) _
          have k1 := HNM.out _ d c (hr.below ha)
          rw [show ((4294967294 : Nat) : Int) = 4294967294 from rfl] at k1
          clear HNM hr
          go_wp2_with fail
          refine k1.mono ?_
          rintro e w3 ⟨rfl, rfl⟩
          clear k1
          have HL3 : Hid (Left PF w1 F g s (w2.alloc (.cells #[.slice (some ⟨d, 0, none⟩) (N + 8) c, .int .i64 (k : Int)] 121))) := HL0.out.next (hb.trans (ha.mono hb.size))
          go_wp2
          go_ret
          exact ⟨by rw [HE.out.1]; rfl, by rw [HE.out.2]; exact HL3.out⟩
        · obtain ⟨j, hj⟩ : ∃ j, j = slotN s A N := ⟨_, rfl⟩
          have hjk : j = 1 - k := by
            rw [hj, slotN, hnw]
            rcases (by omega : k = 0 ∨ k = 1) with rfl | rfl
            · rfl
            · rfl
          obtain ⟨P, hP⟩ : ∃ P, P = A + j * (N + 8) := ⟨_, rfl⟩
          have HE : Hid (E = threeE writeE writeS s P (bodyL (z + 1) l) ∧ S = threeS writeE writeS s P (bodyL (z + 1) l)) := by
            constructor
            · rw [hE, saveE, if_neg (by simp [hl]), if_neg (by simp [hd]), hzN, if_neg hfull, ← hj, ← hP]
            · rw [hS, saveS, if_neg (by simp [hl]), if_neg (by simp [hd]), hzN, if_neg hfull, ← hj, ← hP]
          have HW2 : Hid (∀ W, Below w.heap.size w W → Calls Try.prog 66 #[.pointer (some ⟨b, 0, none⟩), .int .i64 (j : Int), .int .u32 ((z : Int) + 1), .slice x l.length cx] W fun e w' => e = .returned (.int .i64 (E : Int)) ∧ Left PF W F g S w') := fun W hb => by
            have := HW.out W j (z + 1) P hb (by omega) (by omega) hP E S HE.out.1 HE.out.2
            rwa [show ((z + 1 : Nat) : Int) = (z : Int) + 1 by omega] at this
          have e1 : (1 : Int) - (k : Int) = (j : Int) := by omega
          have e2 : IntKind.i64.wrap (j : Int) = (j : Int) := by rw [IntKind.wrap_i64]; omega
          have e3 : IntKind.u32.wrap ((z : Int) + 1) = (z : Int) + 1 := by rw [IntKind.wrap_u32]; omega
          have d1 : ((z : Int) == 4294967294) = false := by simp; omega
          clear h hx hxn hE hS hd hnw hz hzN hl HW hrl hj hjk hP
          go_enter Try.func52, Try.ntmps52
          go_wp2_with fail
          refine hst.mono ?_
          rintro e w1 ⟨rfl, rfl⟩
          clear hst
          go_wp2_with fail
          refine hs.mono ?_
          rintro e w2 ⟨d, c, rfl, hr, hb⟩
          clear hs
          obtain ⟨V, hV⟩ : ∃ V, V = w2.alloc (.cells #[.slice (some ⟨d, 0, none⟩) (N + 8) c, .int .i64 (k : Int)] 121) := ⟨_, rfl⟩
          have ha : Below w2.heap.size w2 V := by rw [hV]; exact (Below.refl _ _).alloc (Nat.le_refl _) _
          have HR : Hid (RowAt V d c (rowL s A N k)) := hr.below ha
          have HB : Hid (Below w1.heap.size w1 V) := hb.trans (ha.mono hb.size)
          have HC : Hid (Cont V w2.heap.size (.slice (some ⟨d, 0, none⟩) (N + 8) c) (.int .i64 (k : Int))) := by rw [hV]; exact Cont.new _ _ _
          have k1 := HNM.out V d c HR.out
          have hbs : w1.heap.size ≤ w2.heap.size := hb.size
          clear hr hb ha
          go_wp2_with fail
          rw [← hV]
          clear hV
          refine k1.mono ?_
          rintro e w3 ⟨rfl, rfl⟩
          clear k1
          obtain ⟨x0, x1, x2, x3⟩ := HC.out.facts
          go_wp2
          refine wp_region_noPanic ?_
          refine wp_region_held (S := fun W => W.cell? ⟨w2.heap.size, 0, none⟩ = some (.slice (some ⟨d, 0, none⟩) (N + 8) c) ∧ W.cell? ⟨w2.heap.size, 1, none⟩ = some (.int .i64 (k : Int))) (by kernel_rfl) ?_
          have hS := (⟨x0, x1⟩ : (fun W : World => W.cell? ⟨w2.heap.size, 0, none⟩ = some (.slice (some ⟨d, 0, none⟩) (N + 8) c) ∧ W.cell? ⟨w2.heap.size, 1, none⟩ = some (.int .i64 (k : Int))) w3.drew)
          refine any_take 0 ?vr12n1 rfl (by kernel_rfl) (by kernel_rfl) (by kernel_rfl) (fun _ _ _ h => h) (by rfl) ?hr12n1 hS ?_
          case hr12n1 => (intro w hSw; (try dsimp only at hSw); go_split_ands; go_simp; (try with_reducible rfl))
          (try simp only [Act.put, List.setIfInBounds_toArray, List.set_cons_zero, List.set_cons_succ])
          refine any_take 1 ?vr12n2 rfl (by kernel_rfl) (by kernel_rfl) (by kernel_rfl) (fun _ _ _ h => h) (by rfl) ?hr12n2 hS ?_
          case hr12n2 => (intro w hSw; (try dsimp only at hSw); go_split_ands; go_simp; (try with_reducible rfl))
          (try simp only [Act.put, List.setIfInBounds_toArray, List.set_cons_zero, List.set_cons_succ])
          refine any_take 2 ?vr12n3 rfl (by kernel_rfl) (by kernel_rfl) (by kernel_rfl) (fun _ _ _ h => h) (by rfl) ?hr12n3 hS ?_
          case hr12n3 => (intro w hSw; (try dsimp only at hSw); go_split_ands; go_simp; (try with_reducible rfl))
          (try simp only [Act.put, List.setIfInBounds_toArray, List.set_cons_zero, List.set_cons_succ])
          refine any_take 3 ?vr12n4 rfl (by kernel_rfl) (by kernel_rfl) (by kernel_rfl) (fun _ _ _ h => h) (by rfl) ?hr12n4 hS ?_
          case hr12n4 => (intro w hSw; (try dsimp only at hSw); go_split_ands; go_simp; (try with_reducible rfl))
          (try simp only [Act.put, List.setIfInBounds_toArray, List.set_cons_zero, List.set_cons_succ])
          refine any_take 4 ?vr12n5 rfl (by kernel_rfl) (by kernel_rfl) (by kernel_rfl) (fun _ _ _ h => h) (by rfl) ?hr12n5 hS ?_
          case hr12n5 => (intro w hSw; (try dsimp only at hSw); go_split_ands; go_simp; (try with_reducible rfl))
          (try simp only [Act.put, List.setIfInBounds_toArray, List.set_cons_zero, List.set_cons_succ])
          refine any_take 5 ?vr12n6 rfl (by kernel_rfl) (by kernel_rfl) (by kernel_rfl) (fun _ _ _ h => h) (by rfl) ?hr12n6 hS ?_
          case hr12n6 => (intro w hSw; (try dsimp only at hSw); go_split_ands; go_simp; (try with_reducible rfl))
          (try simp only [Act.put, List.setIfInBounds_toArray, List.set_cons_zero, List.set_cons_succ])
          refine any_take 8 ?vr12n7 rfl (by kernel_rfl) (by kernel_rfl) (by kernel_rfl) (fun _ _ _ h => h) (by rfl) ?hr12n7 hS ?_
          case hr12n7 => (intro w hSw; (try dsimp only at hSw); go_split_ands; go_simp; (try with_reducible rfl))
          (try simp only [Act.put, List.setIfInBounds_toArray, List.set_cons_zero, List.set_cons_succ])
          refine any_one 6 rfl (by kernel_rfl) (by rfl) (fun K hK => ?_)
          clear hS
          go_simp
          refine (HNM.out w3.drew d c (RowAt.keep (w' := w3.drew) HR.out rfl)).mono ?_
          rintro e w6 ⟨rfl, rfl⟩
          refine hK.out _ _ (⟨x0, x1⟩) (fun hS => ?_)
          clear hK
          (try simp only [Act.put, List.setIfInBounds_toArray, List.set_cons_zero, List.set_cons_succ])
          refine any_take 7 ?vr12n8 rfl (by kernel_rfl) (by kernel_rfl) (by kernel_rfl) (fun _ _ _ h => h) (by rfl) ?hr12n8 hS ?_
          case hr12n8 => (intro w hSw; (try dsimp only at hSw); go_split_ands; go_simp; (try with_reducible rfl))
          (try simp only [Act.put, List.setIfInBounds_toArray, List.set_cons_zero, List.set_cons_succ])
          refine any_one 9 rfl (by kernel_rfl) (by rfl) (fun K hK => ?_)
          clear hS
          go_simp
          refine (HW2.out _ HB.out.drew).mono ?_
          rintro e w9 ⟨rfl, hl9⟩
          have hc9 := hl9.cont (HC.out : Cont w3.drew w2.heap.size _ _) (fun hF => by have := hbd _ hF; omega)
          have HL9 : Hid (Left PF w1 F g S w9) := hl9.before HB.out.drew
          clear hl9
          refine hK.out _ _ (⟨hc9.c0, hc9.c1⟩) (fun hS => ?_)
          clear hK
          (try simp only [Act.put, List.setIfInBounds_toArray, List.set_cons_zero, List.set_cons_succ])
          refine any_take 10 ?vr12n9 rfl (by kernel_rfl) (by kernel_rfl) (by kernel_rfl) (fun _ _ _ h => h) (by rfl) ?hr12n9 hS ?_
          case hr12n9 => (intro w hSw; (try dsimp only at hSw); go_split_ands; go_simp; (try with_reducible rfl))
          (try simp only [Act.put, List.setIfInBounds_toArray, List.set_cons_zero, List.set_cons_succ])
          refine wpAnyH_done (by kernel_rfl) ?_ _
          refine NoPanic.normal ?_
          go_wp2
          go_ret
          exact ⟨rfl, HL9.out⟩
    · have hs := newest_dead w b g A N s F h.fl h.bk hd h.hA h.small
      have HE : Hid (E = 5 ∧ S = s) := by
        constructor
        · rw [hE, saveE, if_neg (by simp [hl]), if_pos hd]
        · rw [hS, saveS, if_neg (by simp [hl]), if_pos hd]
      clear h hx hxn hE hS hd hl
      go_enter Try.func52, Try.ntmps52
      go_wp2_with fail
      refine hst.mono ?_
      rintro e w1 ⟨rfl, rfl⟩
      clear hst
      go_wp2_with fail
      refine hs.mono ?_
      rintro e w2 ⟨rfl, hb⟩
      clear hs
      have HL3 : Hid (Left PF w1 F g s (w2.alloc (.cells #[.slice none 0 0, .int .i64 0] 121))) := HL0.out.next (hb.alloc hb.size _)
      go_wp2
      go_ret
      exact ⟨by rw [HE.out.1]; rfl, by rw [HE.out.2]; exact HL3.out⟩
  · have HE : Hid (E = 1 ∧ S = s) := by
      constructor
      · rw [hE, saveE, if_pos hl]
      · rw [hS, saveS, if_pos hl]
    have hlN : ((l.length : Int) == (N : Int)) = false := by simp; omega
    have hlN2 : ¬ (l.length : Int) = (N : Int) := by omega
    clear h hx hxn hE hS hl
    go_enter Try.func52, Try.ntmps52
    go_wp2_with fail
    refine hst.mono ?_
    rintro e w1 ⟨rfl, rfl⟩
    clear hst
    go_wp2
    go_ret
    exact ⟨by rw [HE.out.1]; rfl, by rw [HE.out.2]; exact HL0.out⟩
end Go.Proofs.Ytjmbioedpghopaa
