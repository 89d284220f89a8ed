/-
  The contracts of Load, Number, Fresh and New.
-/
import Derived.Test.YtgnllmcgebonpaaBankNewest
namespace Go.Proofs.Ytgnllmcgebonpaa
open Go.ChangeShapes Go.WideShapes Go.ChangeAt Go.RowKit

/-- A bank of the program's, with its flash. -/
structure BK (w : World) (b g A N : Nat) (s : PS) (F : Nat → Prop) : Prop where
  fl : PF w g s F
  bk : BA w b g A N
  fits : A + 2 * (N + 8) ≤ s.b.length
  small : N ≤ 64
  len : s.b.length ≤ 4096
theorem BK.below {w w' : World} {b g A N : Nat} {s : PS} {F : Nat → Prop} (h : BK w b g A N s F) (hb : Below w.heap.size w w') : BK w' b g A N s F := ⟨pf_kept.below h.fl hb, h.bk.below hb, h.fits, h.small, h.len⟩
theorem BK.hA {w : World} {b g A N : Nat} {s : PS} {F : Nat → Prop} (h : BK w b g A N s F) : A ≤ 4096 := by have := h.fits; have := h.len; omega

/-- What Load, Number and Fresh tell. -/
def loadL (s : PS) (A N : Nat) : List UInt8 := if s.dead = true then [] else match newI s A N with | none => [] | some k => ((rowL s A N k).drop 5).take N
def loadE (s : PS) (A N : Nat) : Nat := if s.dead = true then 5 else match newI s A N with | none => 8 | some _ => 0
def numN (s : PS) (A N : Nat) : Nat := if s.dead = true then 0 else match newI s A N with | none => 0 | some k => numL (rowL s A N k)
def freshB (s : PS) (A N : Nat) : Bool := !s.dead && !signB (rowL s A N 0) && !signB (rowL s A N 1)

theorem load_ok (w : World) (b g A N : Nat) (s : PS) (F : Nat → Prop) (h : BK w b g A N s F) (R : List UInt8) (E : Nat) (hR : R = loadL s A N) (hE : E = loadE s A N) :
    Calls Try.prog 19 #[.pointer (some ⟨b, 0, none⟩)] w fun e w' => ∃ d cd, e = .returned (.tuple #[.slice d R.length cd, .int .i64 (E : Int)]) ∧ Sees w' d cd R ∧ Below w.heap.size w w' := by
  cases hd : s.dead
  · cases hn : newI s A N with
    | none =>
      have hs := newest_none w b g A N s F h.fl h.bk hd h.fits h.small h.len hn
      have e1 : R = [] := by rw [hR, loadL, if_neg (by simp [hd]), hn]
      have e2 : E = 8 := by rw [hE, loadE, if_neg (by simp [hd]), hn]
      subst e1 e2
      clear h hR hE hd hn
      go_enter Try.func19, Try.ntmps19
      go_wp2_with fail
      refine hs.mono ?_
      rintro e w1 ⟨rfl, hb⟩
      clear hs
      go_wp2
      go_ret2
      exact ⟨none, 0, rfl, Sees.nil' _, hb.alloc hb.size _⟩
    | some k =>
      have hs := newest_some w b g A N s F h.fl h.bk hd h.fits h.small h.len k hn
      have e1 : R = ((rowL s A N k).drop 5).take N := by rw [hR, loadL, if_neg (by simp [hd]), hn]
      have e2 : E = 0 := by rw [hE, loadE, if_neg (by simp [hd]), hn]
      have hl := rowL_len s A N k (newI_le hn) h.fits
      have HL : Hid ((rowL s A N k).length = N + 8) := hl
      have HE : Hid (R = ((rowL s A N k).drop 5).take N) := e1
      have HRL : Hid (R.length = N) := by
        show R.length = N
        rw [e1]; simp; omega
      have hN := h.small
      subst e2
      clear h hR hE hd hn hl e1
      go_enter Try.func19, Try.ntmps19
      go_wp2_with fail
      refine hs.mono ?_
      rintro e w1 ⟨d, c, rfl, hr, hb⟩
      have ha : Below w1.heap.size w1 (w1.alloc (.cells #[.slice (some ⟨d, 0, none⟩) (N + 8) c, .int .i64 (k : Int)] 72)) := (Below.refl _ _).alloc (Nat.le_refl _) _
      have hr2 := hr.below ha
      have hrec := record_ok _ d c N _ hr2 HL.out hN
      have HR2 : Hid (Sees (w1.alloc (.cells #[.slice (some ⟨d, 0, none⟩) (N + 8) c, .int .i64 (k : Int)] 72)) (some ⟨d, 5, none⟩) (c - 5) R) := by rw [HE.out]; exact hr2.record HL.out
      clear hs hr hr2
      go_wp2_with fail
      refine hrec.mono ?_
      rintro e w2 ⟨rfl, rfl⟩
      clear hrec
      go_wp2
      go_ret2
      exact ⟨_, c - 5, by rw [HRL.out]; rfl, HR2.out, hb.trans (ha.mono hb.size)⟩
  · have hs := newest_dead w b g A N s F h.fl h.bk hd h.hA h.small
    have e1 : R = [] := by rw [hR, loadL, if_pos hd]
    have e2 : E = 5 := by rw [hE, loadE, if_pos hd]
    subst e1 e2
    clear h hR hE hd
    go_enter Try.func19, Try.ntmps19
    go_wp2_with fail
    refine hs.mono ?_
    rintro e w1 ⟨rfl, hb⟩
    clear hs
    go_wp2
    go_ret2
    exact ⟨none, 0, rfl, Sees.nil' _, hb.alloc hb.size _⟩
theorem num_ok (w : World) (b g A N : Nat) (s : PS) (F : Nat → Prop) (h : BK w b g A N s F) (z : Nat) (hz : z = numN s A N) :
    Calls Try.prog 21 #[.pointer (some ⟨b, 0, none⟩)] w fun e w' => e = .returned (.int .u32 (z : Int)) ∧ Below w.heap.size w w' := by
  cases hd : s.dead
  · cases hn : newI s A N with
    | none =>
      have hs := newest_none w b g A N s F h.fl h.bk hd h.fits h.small h.len hn
      have e1 : z = 0 := by rw [hz, numN, if_neg (by simp [hd]), hn]
      subst e1
      clear h hz hd hn
      go_enter Try.func21, Try.ntmps21
      go_wp2_with fail
      refine hs.mono ?_
      rintro e w1 ⟨rfl, hb⟩
      clear hs
      go_wp2
      go_ret
      exact ⟨rfl, hb.alloc hb.size _⟩
    | some k =>
      have hs := newest_some w b g A N s F h.fl h.bk hd h.fits h.small h.len k hn
      have e1 : z = numL (rowL s A N k) := by rw [hz, numN, if_neg (by simp [hd]), hn]
      have HL : Hid ((rowL s A N k).length = N + 8) := rowL_len s A N k (newI_le hn) h.fits
      have HE : Hid (z = numL (rowL s A N k)) := e1
      have hN := h.small
      clear h hz hd hn e1
      go_enter Try.func21, Try.ntmps21
      go_wp2_with fail
      refine hs.mono ?_
      rintro e w1 ⟨d, c, rfl, hr, hb⟩
      have ha : Below w1.heap.size w1 (w1.alloc (.cells #[.slice (some ⟨d, 0, none⟩) (N + 8) c, .int .i64 (k : Int)] 72)) := (Below.refl _ _).alloc (Nat.le_refl _) _
      have hnm := number_ok _ d c _ (N + 8) (hr.below ha) HL.out (by omega) z HE.out
      clear hs hr
      go_wp2_with fail
      refine hnm.mono ?_
      rintro e w2 ⟨rfl, rfl⟩
      clear hnm
      go_wp2
      go_ret
      exact ⟨rfl, hb.trans (ha.mono hb.size)⟩
  · have hs := newest_dead w b g A N s F h.fl h.bk hd h.hA h.small
    have e1 : z = 0 := by rw [hz, numN, if_pos hd]
    subst e1
    clear h hz hd
    go_enter Try.func21, Try.ntmps21
    go_wp2_with fail
    refine hs.mono ?_
    rintro e w1 ⟨rfl, hb⟩
    clear hs
    go_wp2
    go_ret
    exact ⟨rfl, hb.alloc hb.size _⟩
theorem fresh_ok (w : World) (b g A N : Nat) (s : PS) (F : Nat → Prop) (h : BK w b g A N s F) (f : Bool) (hf : f = freshB s A N) :
    Calls Try.prog 23 #[.pointer (some ⟨b, 0, none⟩)] w fun e w' => e = .returned (.bool f) ∧ Below w.heap.size w w' := by
  cases hd : s.dead
  · have hs := those_ok "carillon/bank.signed" 44 signB signed_run signed_call (fun W d cd m l h1 h2 _ _ => (signed_ok W d cd m l h1 h2).mono (by rintro e w' ⟨rfl, rfl⟩; exact ⟨rfl, Below.refl _ _⟩)) w b g A N s F h.fl h.bk hd h.fits h.small h.len
    have HF : Hid (∀ L : List It, L.map (·.2.2) = (twoL s A N).filter (fun q => signB q.1) → ((L.length : Int) == 0) = f) := by
      intro L hL
      have h1 := congrArg List.length hL
      rw [List.length_map] at h1
      rw [hf, freshB, hd]
      cases hx : signB (rowL s A N 0) <;> cases hy : signB (rowL s A N 1) <;> (simp [twoL, hx, hy] at h1; rw [h1]; rfl)
    clear h hf hd
    go_enter Try.func23, Try.ntmps23
    go_wp2_with fail
    refine hs.mono ?_
    rintro e w1 ⟨v, L, rfl, hown, hrows, hmap, hb⟩
    have hlen := HF.out L hmap
    obtain ⟨a, n, cap, hn, rfl⟩ : ∃ a n cap, n = L.length ∧ v = .slice a n cap := by
      rcases hown.2 with ⟨rfl, h0⟩ | ⟨g, cap, cur, rfl, _⟩
      · exact ⟨none, 0, 0, h0.symm, rfl⟩
      · exact ⟨_, _, cap, rfl, rfl⟩
    rw [← hn] at hlen
    clear hs hown hrows hmap HF hn
    go_wp2
    go_ret
    exact ⟨rfl, hb⟩
  · have hs := those_dead (.func (.methodOf 72 "carillon/bank.signed") #[] #[]) w b g A N s F h.fl h.bk hd h.hA h.small
    have e1 : f = false := by rw [hf, freshB, hd]; rfl
    subst e1
    clear h hf hd
    go_enter Try.func23, Try.ntmps23
    go_wp2_with fail
    refine hs.mono ?_
    rintro e w1 ⟨rfl, hb⟩
    clear hs
    go_wp2
    go_ret
    exact ⟨rfl, hb⟩
end Go.Proofs.Ytgnllmcgebonpaa
