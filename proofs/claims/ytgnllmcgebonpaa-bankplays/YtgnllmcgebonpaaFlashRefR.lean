/-
  The contract of the document's Read.
-/
import Derived.Test.YtgnllmcgebonpaaFlashRefN
namespace Go.Proofs.Ytgnllmcgebonpaa
open Go.ChangeShapes Go.WideShapes Go.ChangeAt Go.RowKit

/-- 'b[k:]' of a row, as the program makes it. -/
theorem Sees.cut {w : World} {b cap : Nat} {bs : List UInt8} (h : Sees w (some ⟨b, 0, none⟩) cap bs) (k : Nat) (hk : k ≤ bs.length) :
    Sees w (if cap = k then some ⟨b, 0, none⟩ else some ⟨b, k, none⟩) (cap - k) (bs.drop k) := by
  by_cases hc : cap = k
  · have := h.fits
    have hn : bs.drop k = [] := List.drop_eq_nil_of_le (by omega)
    rw [if_pos hc, hn]
    exact ⟨by simp, by have := h.room; omega, by simp, fun hne => absurd rfl hne⟩
  · rw [if_neg hc]
    have := h.tail k hk
    rw [Nat.zero_add] at this
    exact this

def rreadL (t : RS) (a n : Int) : List UInt8 := if chk t.dead t.b.length a n ≠ 0 then [] else (t.b.drop a.toNat).take n.toNat

theorem chk_zero {d : Bool} {len : Nat} {a n : Int} (h : chk d len a n = 0) : d = false ∧ 0 ≤ a ∧ 0 ≤ n ∧ a + n ≤ len := by
  unfold chk at h
  split at h
  · omega
  · rename_i hd
    split at h
    · omega
    · exact ⟨by simpa using hd, by omega, by omega, by omega⟩

set_option maxHeartbeats 1600000 in
set_option maxRecDepth 20000 in
theorem rread_ok (w : World) (r : Nat) (t : RS) (G : Nat → Prop) (h : RF w r t G) (a n : Int) (R : List UInt8) (E : Nat) (hR : R = rreadL t a n) (hE : E = chk t.dead t.b.length a n) :
    Calls Try.prog 37 #[.pointer (some ⟨r, 0, none⟩), .int .i64 a, .int .i64 n] w fun e w' => ∃ d cd, e = .returned (.tuple #[.slice d R.length cd, .int .i64 (E : Int)]) ∧ Sees w' d cd R ∧ Below w.heap.size w w' := by
  obtain ⟨v, h, _, _, _⟩ := h
  have c0 := h.c0
  have c3 := h.c3
  have c0a : (w.alloc (.cells #[] 5)).cell? ⟨r, 0, none⟩ = some v := by
    have hb : Below w.heap.size w (w.alloc (.cells #[] 5)) := (Below.refl _ _).alloc (Nat.le_refl _) _
    rw [hb.cell (p := ⟨r, 0, none⟩) (World.block_lt_of_cell? w _ c0)]; exact c0
  by_cases hc : E = 0
  · subst hc
    obtain ⟨hd, ha0, hn0, hal⟩ := chk_zero hE.symm
    obtain ⟨A, rfl⟩ : ∃ A : Nat, a = (A : Int) := ⟨a.toNat, by omega⟩
    obtain ⟨N, rfl⟩ : ∃ N : Nat, n = (N : Int) := ⟨n.toNat, by omega⟩
    have hAN : A + N ≤ t.b.length := by omega
    have hR2 : R = (t.b.drop A).take N := by rw [hR]; unfold rreadL; rw [if_neg (by rw [← hE]; simp)]; rfl
    have hRl : R.length = N := by rw [hR2]; simp; omega
    have hsm := h.small
    rw [hd] at c3
    have d0 : decide ((A : Int) < 0) = false := by simp
    have d1 : decide ((N : Int) < 0) = false := by simp
    have d2 : decide (t.b.length < A) = false := by simp; omega
    have d2' : ¬ (t.b.length < A) := by omega
    have d3 : decide ((t.b.length : Int) - (A : Int) < (N : Int)) = false := by simp; omega
    rcases h.val with ⟨rfl, hb⟩ | ⟨q, cap, rfl, hfc, hcm, _⟩
    · obtain rfl : A = 0 := by rw [hb] at hAN; simp at hAN; omega
      obtain rfl : N = 0 := by rw [hb] at hAN; simp at hAN; omega
      obtain rfl : R = [] := List.eq_nil_of_length_eq_zero hRl
      obtain ⟨v', w', hrun, ho, hbl⟩ := append_fresh w none 0 [] (Sees.nil' w) (by simp)
      obtain ⟨d, cd, rfl, hs⟩ := Sees.of_own ho
      have HR : Hid ((Builtin.append_ #[22, 22] 22 #[.slice (some ⟨w.heap.size, 0, none⟩) 0 0, .slice none 0 0]).run Try.prog (w.alloc (.cells #[] 5)) = .ok (.slice d 0 cd) w') := hrun
      have HE : Hid (Sees w' d cd [] ∧ Below w.heap.size w w') := ⟨hs, hbl⟩
      have hbl0 : t.b.length = 0 := by rw [hb]; rfl
      clear h hR hE hR2 hRl hrun ho hbl hs hAN hal hb d2 d2' d3
      go_enter Try.func37, Try.ntmps37
      go_wp2_with (at_builtin; refine wpList_append_run rfl _ _ 22 rfl _ _ _ rfl rfl HR.out ?_)
      go_ret2
      exact ⟨d, cd, rfl, HE.out⟩
    · have hsv : Sees w (some ⟨q, 0, none⟩) cap t.b := by
        obtain ⟨a', c', he, hs⟩ := h.sees
        simp only [Value.slice.injEq, true_and] at he
        rw [he.1, he.2]; exact hs
      have hct := (hsv.cut A (by omega)).take N
      rw [← hR2] at hct
      obtain ⟨v', w', hrun, ho, hbl⟩ := append_fresh w _ _ R hct (by omega)
      obtain ⟨d, cd, rfl, hs⟩ := Sees.of_own ho
      have HE : Hid (Sees w' d cd R ∧ Below w.heap.size w w') := ⟨hs, hbl⟩
      rw [hRl] at hrun
      have e1 : A ≤ A + N := by omega
      have e2 : A + N ≤ cap := by omega
      have e3 : A + N - A = N := by omega
      have HE3 : Hid (A + N - A = N) := e3
      by_cases hcA : cap = A
      · rw [if_pos hcA] at hrun
        obtain rfl : N = 0 := by omega
        have hcA0 : cap - A = 0 := by omega
        rw [hcA0] at hrun
        have HR : Hid ((Builtin.append_ #[22, 22] 22 #[.slice (some ⟨w.heap.size, 0, none⟩) 0 0, .slice (some ⟨q, 0, none⟩) 0 0]).run Try.prog (w.alloc (.cells #[] 5)) = .ok (.slice d 0 cd) w') := hrun
        clear h hR hE hR2 hrun ho hbl hs hAN hal hsv hct
        go_enter Try.func37, Try.ntmps37
        go_wp2_with (at_builtin; refine wpList_append_run rfl _ _ 22 rfl _ _ _ rfl rfl HR.out ?_)
        go_ret2
        exact ⟨d, cd, by rw [hRl]; rfl, HE.out⟩
      · rw [if_neg hcA] at hrun
        have HR : Hid ((Builtin.append_ #[22, 22] 22 #[.slice (some ⟨w.heap.size, 0, none⟩) 0 0, .slice (some ⟨q, A, none⟩) (A + N - A) (cap - A)]).run Try.prog (w.alloc (.cells #[] 5)) = .ok (.slice d N cd) w') := by
          show (Builtin.append_ #[22, 22] 22 #[.slice (some ⟨w.heap.size, 0, none⟩) 0 0, .slice (some ⟨q, A, none⟩) (A + N - A) (cap - A)]).run Try.prog (w.alloc (.cells #[] 5)) = .ok (.slice d N cd) w'
          rw [e3]; exact hrun
        clear h hR hE hR2 hrun ho hbl hs hAN hal hsv hct e3
        go_enter Try.func37, Try.ntmps37
        go_wp2_with (at_builtin; refine wpList_append_run rfl _ _ 22 rfl _ _ _ rfl rfl HR.out ?_)
        go_ret2
        exact ⟨d, cd, by rw [hRl]; rfl, HE.out⟩
  · have hR2 : R = [] := by rw [hR]; unfold rreadL; rw [if_pos (by rw [← hE]; exact hc)]
    subst hR2
    have hsm := h.small
    cases hd : t.dead
    · have hE2 : E = 1 ∧ (a < 0 ∨ n < 0 ∨ (t.b.length : Int) - a < n) := by
        unfold chk at hE
        rw [hd, if_neg (by simp)] at hE
        split at hE
        · rename_i hh; exact ⟨hE, hh⟩
        · exact absurd hE hc
      obtain ⟨rfl, hbad⟩ := hE2
      rw [hd] at c3
      obtain ⟨av, cv, rfl, _⟩ := h.sees
      clear h hR hE hc
      by_cases h0 : a < 0
      · have d0 : decide (a < 0) = true := by simp [h0]
        clear hbad
        go_enter Try.func37, Try.ntmps37
        go_wp2
        go_ret2
        exact ⟨none, 0, rfl, Sees.nil' _, Below.refl _ _⟩
      have d0 : decide (a < 0) = false := by simp; omega
      by_cases h1 : n < 0
      · have d1 : decide (n < 0) = true := by simp [h1]
        clear hbad
        go_enter Try.func37, Try.ntmps37
        go_wp2
        go_ret2
        exact ⟨none, 0, rfl, Sees.nil' _, Below.refl _ _⟩
      have d1 : decide (n < 0) = false := by simp; omega
      by_cases h2 : (t.b.length : Int) < a
      · have d2 : decide ((t.b.length : Int) < a) = true := by simp [h2]
        clear hbad
        go_enter Try.func37, Try.ntmps37
        go_wp2
        go_ret2
        exact ⟨none, 0, rfl, Sees.nil' _, Below.refl _ _⟩
      have d2 : decide ((t.b.length : Int) < a) = false := by simp; omega
      have d3 : decide ((t.b.length : Int) - a < n) = true := by simp; omega
      clear hbad
      go_enter Try.func37, Try.ntmps37
      go_wp2
      go_ret2
      exact ⟨none, 0, rfl, Sees.nil' _, Below.refl _ _⟩
    · obtain rfl : E = 5 := by unfold chk at hE; rw [hd] at hE; exact hE
      rw [hd] at c3
      clear h hR hE hc
      go_enter Try.func37, Try.ntmps37
      go_wp2
      go_ret2
      exact ⟨none, 0, rfl, Sees.nil' _, Below.refl _ _⟩
end Go.Proofs.Ytgnllmcgebonpaa
