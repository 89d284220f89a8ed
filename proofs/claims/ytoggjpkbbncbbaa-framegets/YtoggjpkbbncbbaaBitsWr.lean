/-
  The contracts of package bits' writer.
-/
import Derived.Test.YtoggjpkbbncbbaaBitsWrite
import Derived.Test.YtoggjpkbbncbbaaBitsPart
import Derived.Test.YtoggjpkbbncbbaaBitsLaws
namespace Go.Proofs.Ytoggjpkbbncbbaa
open Go.ChangeShapes Go.WideShapes Go.ChangeAt Go.RowKit

set_option maxHeartbeats 800000 in
set_option maxRecDepth 20000 in
theorem wstands_yes (w : World) (b : Nat) (h : w.cell? ⟨b, 0, none⟩ = some (.bool true)) : Calls Try.prog 45 #[.pointer (some ⟨b, 0, none⟩)] w fun e w' => e = .returned (.bool true) ∧ w' = w := by
  go_enter Try.func45, Try.ntmps45
  go_wp2
  go_ret
  exact ⟨rfl, rfl⟩
set_option maxHeartbeats 800000 in
set_option maxRecDepth 20000 in
theorem rstands_yes (w : World) (b : Nat) (h : w.cell? ⟨b, 0, none⟩ = some (.bool true)) : Calls Try.prog 60 #[.pointer (some ⟨b, 0, none⟩)] w fun e w' => e = .returned (.bool true) ∧ w' = w := by
  go_enter Try.func60, Try.ntmps60
  go_wp2
  go_ret
  exact ⟨rfl, rfl⟩
def isW (W : Int) : Bool := decide (0 ≤ W ∧ W ≤ 64)
set_option maxHeartbeats 800000 in
set_option maxRecDepth 20000 in
theorem isWidth_ok (w : World) (W : Int) : Calls Try.prog 82 #[.int .i64 W] w fun e w' => e = .returned (.bool (isW W)) ∧ w' = w := by
  by_cases h0 : 0 ≤ W
  · by_cases h1 : W ≤ 64
    · have e : isW W = true := by simp [isW, h0, h1]
      rw [e]
      go_enter Try.func82, Try.ntmps82
      go_wp2
      go_ret
      exact ⟨rfl, rfl⟩
    · have e : isW W = false := by simp [isW, h1]
      rw [e]
      go_enter Try.func82, Try.ntmps82
      go_wp2
      go_ret
      exact ⟨rfl, rfl⟩
  · have e : isW W = false := by simp [isW, h0]
    rw [e]
    go_enter Try.func82, Try.ntmps82
    go_wp2
    go_ret
    exact ⟨rfl, rfl⟩
set_option maxHeartbeats 800000 in
set_option maxRecDepth 20000 in
theorem wnew_ok (w : World) : Calls Try.prog 20 #[] w fun e w' => ∃ b F, e = .returned (.pointer (some ⟨b, 0, none⟩)) ∧ RowB 85 [] w' b [] F ∧ Below w.heap.size w w' ∧ ∀ k, F k → w.heap.size ≤ k := by
  have HE : Hid (RowB 85 [] (w.alloc (.cells #[.bool true, .slice none 0 0, .int .i64 0] 85)) w.heap.size [] (fun k => k = w.heap.size) ∧ Below w.heap.size w (w.alloc (.cells #[.bool true, .slice none 0 0, .int .i64 0] 85))) :=
    ⟨⟨.slice none 0 0, heap_alloc_new w _, ⟨rfl, .inl ⟨rfl, rfl⟩⟩, rfl, (fun k hk => by simp [Value.ownBlock] at hk), fun k hk => by rw [hk]; simp⟩, (Below.refl _ w).alloc (Nat.le_refl _) _⟩
  go_enter Try.func20, Try.ntmps20
  go_wp2
  go_ret
  exact ⟨w.heap.size, fun k => k = w.heap.size, rfl, HE.out.1, HE.out.2, fun k hk => by rw [hk]; exact Nat.le_refl _⟩
set_option maxHeartbeats 1600000 in
set_option maxRecDepth 20000 in
theorem wdone_ok (w : World) (b : Nat) (bs : List Bool) (F : Nat → Prop) (h : RowB 85 [] w b bs F) (hl : bs.length ≤ 8192) :
    Calls Try.prog 24 #[.pointer (some ⟨b, 0, none⟩)] w fun e w' => ∃ d cd r, Hid (r = packL bs) ∧ e = .returned (.slice d r.length cd) ∧ Sees w' d cd r ∧ Below w.heap.size w w' := by
  obtain ⟨d, cd, c0, c1, c2, _, hs, hd, _⟩ := h.reads
  simp only at c1 hs
  obtain ⟨P, hP⟩ : ∃ P, P = packL bs := ⟨_, rfl⟩
  rw [← hP] at c1 hs
  have hPl : P.length ≤ 1024 := by rw [hP, packL_length]; omega
  have hst := wstands_yes w b c0
  have hpart := fun m => part_ok P (w.drewN m) b d cd c1 (hs.drewN m) hd (by omega) 0 P.length (by omega)
  have hpk : packL (nextB P 0 (8 * P.length)) = P := by
    have := part_even P 0 P.length (by omega)
    simpa using this
  rw [hpk] at hpart
  have HP : Hid (P = packL bs) := hP
  have HK : Hid (∀ w', Below w.heap.size (w.drewN 1) w' → w'.cell? ⟨b, 1, none⟩ = some (.slice d P.length cd)) := fun w' hb => by
    have hc : (w.drewN 1).cell? ⟨b, 1, none⟩ = some (.slice d P.length cd) := c1
    rw [hb.cell (p := ⟨b, 1, none⟩) (World.block_lt_of_cell? _ _ hc)]; exact hc
  clear h hP hs hd c2 hpk
  go_enter Try.func24, Try.ntmps24
  go_wp2_with fail
  refine hst.mono ?_
  rintro e w1 ⟨rfl, rfl⟩
  clear hst
  have HPART := hpart 1
  clear hpart
  go_wp2
  go_region_held3 (fun w' => w'.cell? ⟨b, 1, none⟩ = some (.slice d P.length cd))
    (first | go_keep | exact HK.out _ hb9)
    (first | (go_at_call 46; refine HPART.mono ?_; rintro e w9 ⟨cc, r, hr, rfl, hs9, hb9⟩))
  go_wp2
  go_ret
  exact ⟨_, cc, r, by rw [← HP.out]; exact hr, rfl, hs9, ⟨hb9.os, hb9.tape, hb9.output, hb9.size, hb9.block⟩⟩

set_option maxHeartbeats 1600000 in
set_option maxRecDepth 20000 in
theorem wput_ok (w : World) (b : Nat) (bs : List Bool) (F : Nat → Prop) (n : Nat) (W : Int) (h : RowB 85 [] w b bs F) (hn : n < 18446744073709551616) (hk : bs.length ≤ 8192) :
    Calls Try.prog 69 #[.pointer (some ⟨b, 0, none⟩), .int .u64 (n : Int), .int .i64 W] w fun e w' => e = .returned (.int .i64 (putP bs.length n W : Nat)) ∧ Left (RowB 85 []) w F b (putB bs n W) w' := by
  obtain ⟨d, cd, c0, c1, c2, _⟩ := h.reads
  simp only at c2
  have hst := wstands_yes w b c0
  have hwd := isWidth_ok w W
  have hsame : Left (RowB 85 []) w F b bs w := ⟨F, h, Apart.refl _ _, fun _ h => .inl h⟩
  by_cases h0 : isW W = true
  · rw [h0] at hwd
    obtain ⟨V, rfl⟩ : ∃ V : Nat, W = (V : Int) := ⟨W.toNat, by simp [isW] at h0; omega⟩
    have hV : V ≤ 64 := by simp [isW] at h0; omega
    have m1 : min V 64 = V := by omega
    obtain ⟨N, hN⟩ : ∃ N, N = n / 2 ^ V := ⟨_, rfl⟩
    have dN : (n : Int) / 2 ^ V = (N : Int) := by rw [hN]; simp
    by_cases h1 : N = 0
    · have hlt : n < 2 ^ V := by
        rw [hN] at h1
        rcases Nat.lt_or_ge n (2 ^ V) with h | h
        · exact h
        · have := Nat.div_pos h (Nat.two_pow_pos V); omega
      subst h1
      obtain ⟨L, hL⟩ : ∃ L, L = bs.length := ⟨_, rfl⟩
      by_cases h2 : 8192 < bs.length + V
      · have e1 : putP bs.length n (V : Int) = 2 := by unfold putP; rw [if_neg (by simp; omega), if_pos (by simpa using h2)]
        have e2 : putB bs n (V : Int) = bs := by unfold putB; rw [e1]; rfl
        rw [e1, e2]
        rw [← hL] at c2 h2 hk
        have g1 : ¬ ((V : Int) ≤ 8192 - (L : Int)) := by omega
        clear h hN hL e1 e2 c0 c1
        go_enter Try.func69, Try.ntmps69
        go_wp2_with fail
        refine hst.mono ?_
        rintro e w1 ⟨rfl, rfl⟩
        go_wp2_with fail
        refine hwd.mono ?_
        rintro e w1 ⟨rfl, rfl⟩
        clear hst hwd
        go_wp2
        go_ret
        exact ⟨rfl, hsame⟩
      · have e1 : putP bs.length n (V : Int) = 0 := by unfold putP; rw [if_neg (by simp; omega), if_neg (by simpa using h2)]
        have e2 : putB bs n (V : Int) = bs ++ bitsN n V := by unfold putB; rw [e1]; rfl
        have hadd := add_ok 85 [] (by decide) w b bs F h n V hn hV (by omega)
        rw [e1, e2]
        rw [← hL] at c2 h2 hk
        clear h hN hL e1 e2 c0 c1 hsame hlt
        go_enter Try.func69, Try.ntmps69
        go_wp2_with fail
        refine hst.mono ?_
        rintro e w1 ⟨rfl, rfl⟩
        go_wp2_with fail
        refine hwd.mono ?_
        rintro e w1 ⟨rfl, rfl⟩
        clear hst hwd
        go_wp2_with fail
        refine hadd.mono ?_
        rintro e w1 ⟨⟨r, rfl⟩, HL⟩
        clear hadd
        go_wp2
        go_ret
        exact ⟨rfl, HL⟩
    · have hge : ¬ n < 2 ^ V := by intro h; rw [hN, Nat.div_eq_of_lt h] at h1; exact h1 rfl
      have e1 : putP bs.length n (V : Int) = 1 := by unfold putP; rw [if_pos (.inr (.inr (by simpa using hge)))]
      have e2 : putB bs n (V : Int) = bs := by unfold putB; rw [e1]; rfl
      rw [e1, e2]
      have d1 : ((N : Int) == 0) = false := by simp [h1]
      clear h hN e1 e2 c0 c1 hge
      go_enter Try.func69, Try.ntmps69
      go_wp2_with fail
      refine hst.mono ?_
      rintro e w1 ⟨rfl, rfl⟩
      go_wp2_with fail
      refine hwd.mono ?_
      rintro e w1 ⟨rfl, rfl⟩
      clear hst hwd
      go_wp2
      go_ret
      exact ⟨rfl, hsame⟩
  · have h0' : isW W = false := by simpa using h0
    rw [h0'] at hwd
    have e1 : putP bs.length n W = 1 := by
      unfold putP
      rw [if_pos]
      simp [isW] at h0
      omega
    have e2 : putB bs n W = bs := by unfold putB; rw [e1]; rfl
    rw [e1, e2]
    clear h e1 e2 c0 c1 h0 h0'
    go_enter Try.func69, Try.ntmps69
    go_wp2_with fail
    refine hst.mono ?_
    rintro e w1 ⟨rfl, rfl⟩
    go_wp2_with fail
    refine hwd.mono ?_
    rintro e w1 ⟨rfl, rfl⟩
    clear hst hwd
    go_wp2
    go_ret
    exact ⟨rfl, hsame⟩

set_option maxHeartbeats 1600000 in
set_option maxRecDepth 20000 in
theorem wbytes_ok (w : World) (b : Nat) (bs : List Bool) (F : Nat → Prop) (x : Option Addr) (cx : Nat) (l : List UInt8) (h : RowB 85 [] w b bs F) (hs : Sees w x cx l) (hsn : ∀ b off, x = some ⟨b, off, none⟩ → l ≠ [] → ¬ F b) (hk : bs.length ≤ 8192) :
    Calls Try.prog 70 #[.pointer (some ⟨b, 0, none⟩), .slice x l.length cx] w fun e w' => e = .returned (.int .i64 (bytesP bs.length l.length : Nat)) ∧ Left (RowB 85 []) w F b (bytesB bs l) w' := by
  obtain ⟨d, cd, c0, c1, c2, _⟩ := h.reads
  simp only at c2
  have hst := wstands_yes w b c0
  have hsame : Left (RowB 85 []) w F b bs w := ⟨F, h, Apart.refl _ _, fun _ h => .inl h⟩
  obtain ⟨L, hL⟩ : ∃ L, L = bs.length := ⟨_, rfl⟩
  obtain ⟨q, hq⟩ : ∃ q, q = (8192 - L) / 8 := ⟨_, rfl⟩
  have q1 : (8192 - (L : Int)) / 8 = (q : Int) := by omega
  have q2 : (8192 - (L : Int)).tdiv 8 = (q : Int) := by rw [Int.tdiv_eq_ediv_of_nonneg (by omega)]; exact q1
  have hlm : l.length ≤ 9223372036854775807 := by have := hs.fits; have := hs.room; unfold maxLen at this; omega
  rw [← hL] at c2
  by_cases h2 : l.length ≤ q
  · have e1 : bytesP bs.length l.length = 0 := by unfold bytesP; rw [if_neg (by omega)]
    have e2 : bytesB bs l = bs ++ bitsOf l := by unfold bytesB; rw [e1]; rfl
    have hw : Calls Try.prog 57 #[.pointer (some ⟨b, 0, none⟩), .slice x l.length cx] w fun e w' => (∃ r, e = .returned r) ∧ Left (RowB 85 []) w F b (bs ++ bitsOf l) w' := by
      by_cases hu : bs.length % 8 = 0
      · exact write_even 85 [] (by decide) w b bs F h x cx l hs hsn (bs.length / 8) (by omega) (by omega)
      · exact write_odd 85 [] (by decide) w b bs F h x cx l hs hsn hu (by omega)
    rw [e1, e2]
    have hLm : L ≤ 8192 := by omega
    clear h hs hsn hq hL e1 e2 c0 c1 hsame
    go_enter Try.func70, Try.ntmps70
    go_wp2_with fail
    refine hst.mono ?_
    rintro e w1 ⟨rfl, rfl⟩
    clear hst
    go_wp2_with fail
    refine hw.mono ?_
    rintro e w1 ⟨⟨r, rfl⟩, HL⟩
    clear hw
    go_wp2
    go_ret
    exact ⟨rfl, HL⟩
  · have e1 : bytesP bs.length l.length = 2 := by unfold bytesP; rw [if_pos (by omega)]
    have e2 : bytesB bs l = bs := by unfold bytesB; rw [e1]; rfl
    rw [e1, e2]
    have hLm : L ≤ 8192 := by omega
    clear h hs hsn hq hL e1 e2 c0 c1
    go_enter Try.func70, Try.ntmps70
    go_wp2_with fail
    refine hst.mono ?_
    rintro e w1 ⟨rfl, rfl⟩
    clear hst
    go_wp2
    go_ret
    exact ⟨rfl, hsame⟩

end Go.Proofs.Ytoggjpkbbncbbaa
