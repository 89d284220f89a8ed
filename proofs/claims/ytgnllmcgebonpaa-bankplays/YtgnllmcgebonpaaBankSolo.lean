/-
  A bank of the program's alone, act by act; awake.
-/
import Derived.Test.YtgnllmcgebonpaaBankTornB
namespace Go.Proofs.Ytgnllmcgebonpaa
open Go.ChangeShapes Go.WideShapes Go.ChangeAt Go.RowKit

/-- A bank with its flash, in memory that w0 has not; w0's own is as it was. -/
def Solo (w0 w : World) (b g A N : Nat) (s : PS) : Prop := ∃ F, BK w b g A N s F ∧ (∀ k, F k → w0.heap.size ≤ k) ∧ ¬ F b ∧ Below w0.heap.size w0 w
theorem Solo.low {w0 w : World} {b g A N : Nat} {s : PS} (h : Solo w0 w b g A N s) : Below w0.heap.size w0 w := by obtain ⟨F, h1, h2, h3, h4⟩ := h; exact h4
theorem Solo.next {w0 w w' : World} {b g A N : Nat} {s : PS} (h : Solo w0 w b g A N s) (hb : Below w.heap.size w w') : Solo w0 w' b g A N s := by
  obtain ⟨F, h1, h2, h3, h4⟩ := h
  exact ⟨F, h1.below hb, h2, h3, h4.trans (hb.mono h4.size)⟩
theorem Solo.act {w0 w w' : World} {b g A N : Nat} {s s' : PS} {F : Nat → Prop} (h1 : BK w b g A N s F) (h2 : ∀ k, F k → w0.heap.size ≤ k) (h3 : ¬ F b) (h4 : Below w0.heap.size w0 w) (hl : Left PF w F g s' w') (hs : s'.b.length = s.b.length) : Solo w0 w' b g A N s' := by
  obtain ⟨F', k1, k2, k3⟩ := id hl
  have hbl := h1.bk.lt
  have hsz := h4.size
  refine ⟨F', ⟨k1, hl.ba h1.bk h3, by rw [hs]; exact h1.fits, h1.small, by rw [hs]; exact h1.len⟩, fun k hk => ?_, fun hk => ?_, hl.below h4 h2 hsz⟩
  · rcases k3 k hk with h | h
    · exact h2 k h
    · omega
  · rcases k3 b hk with h | h
    · exact h3 h
    · omega
/-- Save of bytes that are newer than the flash; what is newer stays. -/
theorem save_solo {w0 w w1 : World} {b g A N : Nat} {s : PS} (h : Solo w0 w b g A N s) (hb : Below w.heap.size w w1) (hn : s.n ≤ 999990) (x : Option Addr) (cx : Nat) (l : List UInt8) (hx : Sees w1 x cx l) (hxn : ∀ bb off, x = some ⟨bb, off, none⟩ → l ≠ [] → w.heap.size ≤ bb) (E : Nat) (hE : E = saveE s A N l) (S : PS) (hS : S = saveS s A N l) :
    Calls Try.prog 15 #[.pointer (some ⟨b, 0, none⟩), .slice x l.length cx] w1 fun e w' => e = .returned (.int .i64 (E : Int)) ∧ Solo w0 w' b g A N S ∧ ∀ y cy m, Sees w1 y cy m → (∀ bb off, y = some ⟨bb, off, none⟩ → m ≠ [] → w.heap.size ≤ bb) → Sees w' y cy m := by
  obtain ⟨F, h1, h2, h3, h4⟩ := h
  have hF : ∀ k, F k → k < w.heap.size := pf_kept.lt h1.fl
  refine (save_ok w1 b g A N s F (h1.below hb) h3 hn x cx l hx (fun bb off he hne hf => ?_) E hE S hS).mono ?_
  · have := hxn bb off he hne; have := hF bb hf; omega
  · rintro e w' ⟨rfl, hl⟩
    refine ⟨rfl, Solo.act (h1.below hb) h2 h3 (h4.trans (hb.mono h4.size)) hl (by rw [hS, save_len]), fun y cy m hy hyn => hl.sees hy (fun bb off he hne hf => ?_)⟩
    have := hyn bb off he hne; have := hF bb hf; omega
theorem tear_solo {w0 w w1 : World} {b g A N : Nat} {s : PS} (h : Solo w0 w b g A N s) (hb : Below w.heap.size w w1) (k n : Int) (hk : (Lit.int .i64 k).wf = true) (hn : (Lit.int .i64 n).wf = true) :
    Calls Try.prog 13 #[.pointer (some ⟨g, 0, none⟩), .int .i64 k, .int .i64 n] w1 fun e w' => (∃ z, e = .returned z) ∧ Solo w0 w' b g A N (tearS s k n) ∧ ∀ y cy m, Sees w1 y cy m → (∀ bb off, y = some ⟨bb, off, none⟩ → m ≠ [] → w.heap.size ≤ bb) → Sees w' y cy m := by
  obtain ⟨F, h1, h2, h3, h4⟩ := h
  have hF : ∀ k, F k → k < w.heap.size := pf_kept.lt h1.fl
  refine (tear_ok w1 g s F (h1.below hb).fl k n hk hn).mono ?_
  rintro e w' ⟨he, hl⟩
  refine ⟨he, Solo.act (h1.below hb) h2 h3 (h4.trans (hb.mono h4.size)) hl (tear_len s k n), fun y cy m hy hyn => hl.sees hy (fun bb off he hne hf => ?_)⟩
  have := hyn bb off he hne; have := hF bb hf; omega
theorem wake_solo {w0 w w1 : World} {b g A N : Nat} {s : PS} (h : Solo w0 w b g A N s) (hb : Below w.heap.size w w1) :
    Calls Try.prog 17 #[.pointer (some ⟨g, 0, none⟩)] w1 fun e w' => (∃ z, e = .returned z) ∧ Solo w0 w' b g A N (wakeS s) ∧ ∀ y cy m, Sees w1 y cy m → (∀ bb off, y = some ⟨bb, off, none⟩ → m ≠ [] → w.heap.size ≤ bb) → Sees w' y cy m := by
  obtain ⟨F, h1, h2, h3, h4⟩ := h
  have hF : ∀ k, F k → k < w.heap.size := pf_kept.lt h1.fl
  refine (wake_ok w1 g s F (h1.below hb).fl).mono ?_
  rintro e w' ⟨he, hl⟩
  refine ⟨he, Solo.act (h1.below hb) h2 h3 (h4.trans (hb.mono h4.size)) hl rfl, fun y cy m hy hyn => hl.sees hy (fun bb off he hne hf => ?_)⟩
  have := hyn bb off he hne; have := hF bb hf; omega
theorem load_solo {w0 w : World} {b g A N : Nat} {s : PS} (h : Solo w0 w b g A N s) (R : List UInt8) (E : Nat) (hR : R = loadL s A N) (hE : E = loadE s A N) :
    Calls Try.prog 19 #[.pointer (some ⟨b, 0, none⟩)] w fun e w' => ∃ d cd, e = .returned (.tuple #[.slice d R.length cd, .int .i64 (E : Int)]) ∧ Sees w' d cd R ∧ Below w.heap.size w w' := by
  obtain ⟨F, h1, h2, h3, h4⟩ := h
  exact load_ok w b g A N s F h1 R E hR hE
theorem num_solo {w0 w : World} {b g A N : Nat} {s : PS} (h : Solo w0 w b g A N s) (z : Nat) (hz : z = numN s A N) :
    Calls Try.prog 21 #[.pointer (some ⟨b, 0, none⟩)] w fun e w' => e = .returned (.int .u32 (z : Int)) ∧ Below w.heap.size w w' := by
  obtain ⟨F, h1, h2, h3, h4⟩ := h
  exact num_ok w b g A N s F h1 z hz
theorem fresh_solo {w0 w : World} {b g A N : Nat} {s : PS} (h : Solo w0 w b g A N s) (f : Bool) (hf : f = freshB s A N) :
    Calls Try.prog 23 #[.pointer (some ⟨b, 0, none⟩)] w fun e w' => e = .returned (.bool f) ∧ Below w.heap.size w w' := by
  obtain ⟨F, h1, h2, h3, h4⟩ := h
  exact fresh_ok w b g A N s F h1 f hf
/-- New upon a new flash. -/
theorem bnew_solo {w0 w : World} {g : Nat} {s : PS} (h : Held w0 w g s) (A N : Nat) (hm : mayB s.b.length A N) (hs : s.b.length ≤ 4096) :
    Calls Try.prog 11 #[.pointer (some ⟨g, 0, none⟩), .int .i64 (A : Int), .int .i64 (N : Int)] w fun e w' => ∃ b, e = .returned (.tuple #[.pointer (some ⟨b, 0, none⟩), .int .i64 0]) ∧ Solo w0 w' b g A N s := by
  obtain ⟨F, h1, h2, h3⟩ := h
  refine (bnew_ok w g s F h1 A N hm).mono ?_
  rintro e w' ⟨b, rfl, hb, hba, hbe⟩
  obtain ⟨m1, m2, m3, m4⟩ := hm
  refine ⟨b, rfl, F, ⟨pf_kept.below h1 hbe, hba, by omega, by omega, hs⟩, h2, fun hF => ?_, h3.trans (hbe.mono h3.size)⟩
  have := pf_kept.lt h1 b hF; omega

set_option maxHeartbeats 1600000 in
set_option maxRecDepth 20000 in
theorem awake_ok (w : World) : Calls Try.prog 8 #[] w fun e w' => e = .returned (.bool true) ∧ Below w.heap.size w w' := by
  have hn : Calls Try.prog 6 #[.int .i64 40] w _ := new_held w 40 (by omega)
  go_enter Try.func8, Try.ntmps8
  go_wp2_with fail
  refine hn.mono ?_
  rintro e w1 ⟨g, rfl, hh⟩
  have hb : Calls Try.prog 11 #[.pointer (some ⟨g, 0, none⟩), .int .i64 0, .int .i64 4] w1 _ := bnew_solo hh 0 4 (by unfold mayB newS; simp) (by simp [newS])
  clear hn hh
  go_wp2_with fail
  refine hb.mono ?_
  rintro e w2 ⟨b, rfl, hs⟩
  clear hb
  obtain ⟨p1, p2⟩ := awake_pure
  obtain ⟨S, hS⟩ : ∃ S, S = saveS (newS 40) 0 4 [1, 2, 3, 4] := ⟨_, rfl⟩
  rw [← hS] at p2
  have ha : Below w2.heap.size w2 (w2.alloc (.cells #[.int .u8 1, .int .u8 2, .int .u8 3, .int .u8 4] 5)) := (Below.refl _ _).alloc (Nat.le_refl _) _
  have k1 : Calls Try.prog 15 #[.pointer (some ⟨b, 0, none⟩), .slice (some ⟨w2.heap.size, 0, none⟩) 4 4] (w2.alloc (.cells #[.int .u8 1, .int .u8 2, .int .u8 3, .int .u8 4] 5)) _ :=
    save_solo hs ha (by simp [newS]) (some ⟨w2.heap.size, 0, none⟩) 4 [1, 2, 3, 4] (sees_lit w2 [1, 2, 3, 4] 5 (0, 0) (by simp)) (fun bb off he _ => by simp only [Option.some.injEq, Addr.mk.injEq] at he; omega) 0 p1.symm S hS
  rw [show ((0 : Nat) : Int) = 0 from rfl] at k1
  have HP2 : Hid (1 = numN S 0 4) := p2.symm
  clear hs p1 p2 hS ha
  go_wp2_with fail
  refine k1.mono ?_
  rintro e w3 ⟨rfl, hs3, _⟩
  have k2 := num_solo hs3 1 HP2.out
  rw [show ((1 : Nat) : Int) = 1 from rfl] at k2
  have HB : Hid (Below w.heap.size w w3) := hs3.low
  clear k1 hs3
  go_wp2_with fail
  refine k2.mono ?_
  rintro e w4 ⟨rfl, hb4⟩
  have HB4 : Hid (Below w.heap.size w w4) := HB.out.trans (hb4.mono HB.out.size)
  clear k2 hb4 HB
  go_wp2
  go_ret
  exact ⟨rfl, HB4.out⟩
end Go.Proofs.Ytgnllmcgebonpaa
