/-
  The document's bank: the contract of Save.
-/
import Derived.Test.YtgnllmcgebonpaaBankRefB
namespace Go.Proofs.Ytgnllmcgebonpaa
open Go.ChangeShapes Go.WideShapes Go.ChangeAt Go.RowKit

def rsaveE (t : RS) (A N : Nat) (l : List UInt8) : Nat := if l.length ≠ N then 1 else if t.dead = true then 5 else if numN (psOf t) A N = 4294967294 then 9 else threeE rwriteE rwriteT t ((A + slotN (psOf t) A N * (N + 8) : Nat) : Int) (bodyL (numN (psOf t) A N + 1) l)
def rsaveT (t : RS) (A N : Nat) (l : List UInt8) : RS := if l.length ≠ N then t else if t.dead = true then t else if numN (psOf t) A N = 4294967294 then t else threeS rwriteE rwriteT t ((A + slotN (psOf t) A N * (N + 8) : Nat) : Int) (bodyL (numN (psOf t) A N + 1) l)

theorem Left.rnext {w w1 w2 : World} {G : Nat → Prop} {r : Nat} {t : RS} (h : Left RF w G r t w1) (hb : Below w1.heap.size w1 w2) : Left RF w G r t w2 := by
  obtain ⟨F1, h1, h2, h3⟩ := h
  exact ⟨F1, rf_kept.below h1 hb, h2.trans (Apart.of_below (F := G) hb) (fun i hi => .inl hi), h3⟩
theorem Left.rsees {w w1 : World} {G : Nat → Prop} {r : Nat} {t : RS} (h : Left RF w G r t w1) {x : Option Addr} {cx : Nat} {l : List UInt8} (hx : Sees w x cx l) (hxn : ∀ bb off, x = some ⟨bb, off, none⟩ → l ≠ [] → ¬ G bb) : Sees w1 x cx l := by
  obtain ⟨F1, h1, h2, h3⟩ := h
  exact h2.sees hx hxn
theorem Left.rba {w w1 : World} {G : Nat → Prop} {r : Nat} {t : RS} (h : Left RF w G r t w1) {b A N : Nat} (hB : RBA w b r A N) (hF : ¬ G b) : RBA w1 b r A N := by
  obtain ⟨F1, h1, h2, h3⟩ := h
  show w1.heap[b]? = _
  rw [h2.block b hB.lt hF]; exact hB
theorem Left.rbefore {w w1 w2 : World} {G : Nat → Prop} {r : Nat} {t : RS} (h : Left RF w1 G r t w2) (hb : Below w.heap.size w w1) : Left RF w G r t w2 := by
  obtain ⟨F1, h1, h2, h3⟩ := h
  refine ⟨F1, h1, (Apart.of_below (F := G) hb).trans h2 (fun i hi => .inl hi), fun k hk => ?_⟩
  rcases h3 k hk with h4 | h4
  · exact .inl h4
  · right; have := hb.size; omega
theorem Left.rrefl {w : World} {G : Nat → Prop} {r : Nat} {t : RS} (h : RF w r t G) : Left RF w G r t w := ⟨G, h, Apart.refl _ _, fun _ h => .inl h⟩
theorem rwrite_new {w w1 w2 : World} {G : Nat → Prop} {r : Nat} {t : RS} (h : Left RF w G r t w1) (hb : Below w1.heap.size w1 w2) (hn : t.n ≤ 1000000) (a : Int) (x : Option Addr) (cx : Nat) (l : List UInt8) (hx : Sees w2 x cx l) (hxn : ∀ bb off, x = some ⟨bb, off, none⟩ → l ≠ [] → w1.heap.size ≤ bb) (E : Nat) (hE : E = rwriteE t a l) (S : RS) (hS : S = rwriteT t a l) :
    Calls Try.prog 10 #[.pointer (some ⟨r, 0, none⟩), .int .i64 a, .slice x l.length cx] w2 fun e w' => e = .returned (.int .i64 (E : Int)) ∧ Left RF w G r S w' := by
  obtain ⟨F1, h1, h2, h3⟩ := h
  rw [hE, hS]
  refine (rwrite_ok w2 r t F1 (rf_kept.below h1 hb) hn a x cx l hx (fun bb off he hne hF => ?_)).mono ?_
  · have := hxn bb off he hne; have := rf_kept.lt h1 bb hF; omega
  · rintro e w' ⟨rfl, F2, k1, k2, k3⟩
    have h4 : Apart G w w2 := h2.trans (Apart.of_below (F := G) hb) (fun i hi => .inl hi)
    refine ⟨rfl, F2, k1, h4.trans k2 h3, fun k hk => ?_⟩
    rcases k3 k hk with h5 | h5
    · exact h3 k h5
    · right; have := h4.size; omega
theorem numN_lt (s : PS) (A N : Nat) (h : A + 2 * (N + 8) ≤ s.b.length) : numN s A N < 4294967295 := by
  unfold numN
  split
  · omega
  · cases hn : newI s A N with
    | none => simp
    | some k =>
      have hk := newI_le hn
      have h1 := numL_lt (rowL s A N k) (by rw [rowL_len s A N k hk h]; omega)
      have h2 := wholeB_num (newI_whole hn)
      show numL (rowL s A N k) < 4294967295
      omega
theorem rwrite_n (t : RS) (a : Int) (l : List UInt8) : (rwriteT t a l).n ≤ t.n + 1 := by
  unfold rwriteT; split <;> simp

set_option maxHeartbeats 6400000 in
set_option maxRecDepth 20000 in
theorem rsave_ok (w : World) (v r A N : Nat) (t : RS) (G : Nat → Prop) (h : RK w v r A N t G) (hGv : ¬ G v) (hn : t.n ≤ 999990) (x : Option Addr) (cx : Nat) (l : List UInt8) (hx : Sees w x cx l) (E : Nat) (hE : E = rsaveE t A N l) (S : RS) (hS : S = rsaveT t A N l) :
    Calls Try.prog 16 #[.pointer (some ⟨v, 0, none⟩), .slice x l.length cx] w fun e w' => e = .returned (.int .i64 (E : Int)) ∧ Left RF w G r S w' := by
  have c2 := h.bk.c2
  have hll : l.length ≤ 9223372036854775807 := by have := hx.fits; have := hx.room; unfold maxLen at this; omega
  have HL0 : Hid (Left RF w G r t w) := Left.rrefl h.fl
  have H0 : Hid (Kr w v r A N w) := Kr.of h.bk
  have HK : Hid (∀ W, Below w.heap.size w W → RK W v r A N t G) := fun W hb => h.below hb
  obtain ⟨⟨c0, c1, _⟩, _⟩ := H0.out
  by_cases hl : l.length = N
  · have hlN : ((l.length : Int) == (N : Int)) = true := by simp [hl]
    have hlN2 : (l.length : Int) = (N : Int) := by omega
    cases hd : t.dead
    · have K2 : Hid (∀ W, Kr w v r A N W → Calls Try.prog 37 #[.pointer (some ⟨r, 0, none⟩), .int .i64 (A : Int), .int .i64 0] W fun e w' => ∃ d cd, e = .returned (.tuple #[.slice d 0 cd, .int .i64 0]) ∧ Below W.heap.size W w' ∧ Below w.heap.size w w') := fun W hb => by
        refine (rread_none W v r A N t G (h.below hb.2) 0 (by rw [hd]; rfl)).mono ?_
        rintro e w' ⟨d, cd, h1, h2⟩
        exact ⟨d, cd, h1, h2, hb.2.trans (h2.mono hb.2.size)⟩
      obtain ⟨z, hz⟩ : ∃ z, z = numN (psOf t) A N := ⟨_, rfl⟩
      have K3 : Hid (∀ W, Below w.heap.size w W → Calls Try.prog 22 #[.pointer (some ⟨v, 0, none⟩)] W fun e w' => e = .returned (.int .u32 (z : Int)) ∧ Below W.heap.size W w') := fun W hb => rnum_ok W v r A N t G (HK.out W hb) z hz
      by_cases hfull : z = 4294967294
      · have HE : Hid (E = 9 ∧ S = t) := by
          constructor
          · rw [hE, rsaveE, if_neg (by simp [hl]), if_neg (by simp [hd]), ← hz, if_pos hfull]
          · rw [hS, rsaveT, if_neg (by simp [hl]), if_neg (by simp [hd]), ← hz, if_pos hfull]
        subst hfull
        rw [show ((4294967294 : Nat) : Int) = 4294967294 from rfl] at K3
        clear h hx hE hS hd hz hl HK
        go_enter Try.func16, Try.ntmps16
        go_wp2
        go_region_held3 (fun W => (W.cell? ⟨v, 0, none⟩ = some (.pointer (some ⟨r, 0, none⟩)) ∧ W.cell? ⟨v, 1, none⟩ = some (.int .i64 (A : Int)) ∧ W.cell? ⟨v, 2, none⟩ = some (.int .i64 (N : Int))) ∧ Below w.heap.size w W)
          (first | exact H0.out | assumption | exact H0.out.drew | exact Kr.drew (by assumption) | exact Kr.below (by assumption) (by assumption))
          (first | (go_at_call 37; (with_reducible refine (K2.out _ ?_).mono ?_); (focus (first | exact H0.out | assumption | exact H0.out.drew | exact Kr.drew (by assumption) | exact Kr.below (by assumption) (by assumption))); rintro e w9 ⟨d, cd, rfl, hb8, hbr⟩))
        have k3 := K3.out w9 hbr
        clear K2 K3 hb8 H0 c0 c1 c2
        go_wp2_with fail
        refine k3.mono ?_
        rintro e w2 ⟨rfl, hb2⟩
        have HL2 : Hid (Left RF w G r t w2) := HL0.out.rnext (hbr.trans (hb2.mono hbr.size))
        clear k3
        go_wp2
        go_ret
        exact ⟨by rw [HE.out.1]; rfl, by rw [HE.out.2]; exact HL2.out⟩
      · obtain ⟨j, hj⟩ : ∃ j, j = slotN (psOf t) A N := ⟨_, rfl⟩
        obtain ⟨P, hP⟩ : ∃ P, P = A + j * (N + 8) := ⟨_, rfl⟩
        obtain ⟨B, hB⟩ : ∃ B, B = bodyL (z + 1) l := ⟨_, rfl⟩
        obtain ⟨t1, ht1⟩ : ∃ t1, t1 = rwriteT t P [0] := ⟨_, rfl⟩
        obtain ⟨E1, hE1⟩ : ∃ E1, E1 = rwriteE t P [0] := ⟨_, rfl⟩
        obtain ⟨t2, ht2⟩ : ∃ t2, t2 = rwriteT t1 ((P : Int) + 1) B := ⟨_, rfl⟩
        obtain ⟨E2, hE2⟩ : ∃ E2, E2 = rwriteE t1 ((P : Int) + 1) B := ⟨_, rfl⟩
        obtain ⟨t3, ht3⟩ : ∃ t3, t3 = rwriteT t2 P [90] := ⟨_, rfl⟩
        obtain ⟨E3, hE3⟩ : ∃ E3, E3 = rwriteE t2 P [90] := ⟨_, rfl⟩
        have hn1 : t1.n ≤ 999991 := by rw [ht1]; have := rwrite_n t P [0]; omega
        have hn2 : t2.n ≤ 999992 := by rw [ht2]; have := rwrite_n t1 ((P : Int) + 1) B; omega
        have HES : Hid ((E = if E1 ≠ 0 then E1 else if E2 ≠ 0 then E2 else E3) ∧ S = if E1 ≠ 0 then t1 else if E2 ≠ 0 then t2 else t3) := by
          constructor
          · rw [hE, rsaveE, if_neg (by simp [hl]), if_neg (by simp [hd]), ← hz, if_neg hfull, ← hj, ← hP, ← hB, threeE, ← hE1, ← ht1, ← hE2, ← ht2, ← hE3]
          · rw [hS, rsaveT, if_neg (by simp [hl]), if_neg (by simp [hd]), ← hz, if_neg hfull, ← hj, ← hP, ← hB, threeS, ← hE1, ← ht1, ← hE2, ← ht2, ← ht3]
        have W1 : Hid (∀ w0 w1, Left RF w0 G r t w1 → Calls Try.prog 10 #[.pointer (some ⟨r, 0, none⟩), .int .i64 (P : Int), .slice (some ⟨w1.heap.size, 0, none⟩) 1 1] (w1.alloc (.cells #[.int .u8 0] 5)) fun e w' => e = .returned (.int .i64 (E1 : Int)) ∧ Left RF w0 G r t1 w') := fun w0 w1 hl1 =>
          rwrite_new hl1 ((Below.refl _ _).alloc (Nat.le_refl _) _) (by omega) _ _ 1 [0] (sees_lit w1 [0] 5 (0, 0) (by simp)) (fun bb off he _ => by simp only [Option.some.injEq, Addr.mk.injEq] at he; omega) E1 hE1 t1 ht1
        have W2' : Hid (∀ w0 w1 w2 y cy, Left RF w0 G r t1 w1 → Below w1.heap.size w1 w2 → Sees w2 y cy B → (∀ bb off, y = some ⟨bb, off, none⟩ → B ≠ [] → w1.heap.size ≤ bb) → Calls Try.prog 10 #[.pointer (some ⟨r, 0, none⟩), .int .i64 ((P : Int) + 1), .slice y B.length cy] w2 fun e w' => e = .returned (.int .i64 (E2 : Int)) ∧ Left RF w0 G r t2 w') := fun w0 w1 w2 y cy hl1 hb hy hyn =>
          rwrite_new hl1 hb (by omega) _ y cy B hy hyn E2 hE2 t2 ht2
        have W3 : Hid (∀ w0 w1, Left RF w0 G r t2 w1 → Calls Try.prog 10 #[.pointer (some ⟨r, 0, none⟩), .int .i64 (P : Int), .slice (some ⟨w1.heap.size, 0, none⟩) 1 1] (w1.alloc (.cells #[.int .u8 90] 5)) fun e w' => e = .returned (.int .i64 (E3 : Int)) ∧ Left RF w0 G r t3 w') := fun w0 w1 hl1 =>
          rwrite_new hl1 ((Below.refl _ _).alloc (Nat.le_refl _) _) (by omega) _ _ 1 [90] (sees_lit w1 [90] 5 (0, 0) (by simp)) (fun bb off he _ => by simp only [Option.some.injEq, Addr.mk.injEq] at he; omega) E3 hE3 t3 ht3
        obtain ⟨V, hV⟩ : ∃ V, V = rnV t A N := ⟨_, rfl⟩
        have K4 : Hid (∀ W, Below w.heap.size w W → Calls Try.prog 38 #[.pointer (some ⟨v, 0, none⟩)] W fun e w' => e = .returned (.int .i64 V) ∧ Below W.heap.size W w') := fun W hb => rnewest_ok W v r A N t G (HK.out W hb) V hV
        have hVj : (V = 0 ∧ j = 1) ∨ (¬ V = 0 ∧ j = 0) := by
          rw [hV, rnV, if_neg (by simp [hd]), hj, slotN]
          cases hq : newI (psOf t) A N with
          | none => right; exact ⟨by simp, by simp⟩
          | some k =>
            have := newI_le hq
            rcases (by omega : k = 0 ∨ k = 1) with rfl | rfl
            · left; exact ⟨rfl, by simp⟩
            · right; exact ⟨by simp, by simp⟩
        have hzl : z < 4294967295 := by rw [hz]; exact numN_lt (psOf t) A N h.fits
        have hA4 := h.hA
        have hN6 := h.small
        have HGl : Hid (∀ k, G k → k < w.heap.size) := rf_kept.lt h.fl
        have HXS : Hid (∀ W, Below w.heap.size w W → Sees W x cx l) := fun W hb => hx.below hb
        have HLL : Hid (l.length ≤ 64) := by show l.length ≤ 64; omega
        obtain ⟨M, hM⟩ : ∃ M : Nat, M = N + 8 := ⟨_, rfl⟩
        have e1 : (N : Int) + 8 = (M : Int) := by omega
        have d3 : IntKind.i64.wrap ((N : Int) + 8) = (M : Int) := by rw [e1, IntKind.wrap_i64]; omega
        have d4 : IntKind.i64.wrap (M : Int) = (M : Int) := by rw [IntKind.wrap_i64]; omega
        have d5 : IntKind.i64.wrap ((P : Int) + 1) = (P : Int) + 1 := by
          have : P ≤ 5000 := by rcases hVj with ⟨_, rfl⟩ | ⟨_, rfl⟩ <;> omega
          rw [IntKind.wrap_i64]; omega
        have dz : ((z : Int) == 4294967294) = false := by simp; omega
        obtain ⟨Z, hZ⟩ : ∃ Z : Nat, Z = z + 1 := ⟨_, rfl⟩
        have ez : (z : Int) + 1 = (Z : Int) := by omega
        have dz2 : IntKind.u32.wrap ((z : Int) + 1) = (Z : Int) := by rw [ez, IntKind.wrap_u32]; omega
        have dz3 : IntKind.u32.wrap (Z : Int) = (Z : Int) := by rw [IntKind.wrap_u32]; omega
        have hZl : Z < 4294967296 := by omega
        have HB : Hid (B = bodyL Z l) := by rw [hZ]; exact hB
        have HPj : Hid (P = A + j * M) := by rw [hM]; exact hP
        have hMl : M ≤ 72 := by omega
        clear h hx hE hS hd hz hl hj hP hB hZ hE1 ht1 hE2 ht2 hE3 ht3 hV hM hlN2
        go_enter Try.func16, Try.ntmps16
        go_wp2
        go_region_held3 (fun W => (W.cell? ⟨v, 0, none⟩ = some (.pointer (some ⟨r, 0, none⟩)) ∧ W.cell? ⟨v, 1, none⟩ = some (.int .i64 (A : Int)) ∧ W.cell? ⟨v, 2, none⟩ = some (.int .i64 (N : Int))) ∧ Below w.heap.size w W)
          (first | exact H0.out | assumption | exact H0.out.drew | exact Kr.drew (by assumption) | exact Kr.below (by assumption) (by assumption))
          (first | (go_at_call 37; (with_reducible refine (K2.out _ ?_).mono ?_); (focus (first | exact H0.out | assumption | exact H0.out.drew | exact Kr.drew (by assumption) | exact Kr.below (by assumption) (by assumption))); rintro e w9 ⟨d, cd, rfl, hb8, hbr⟩))
        have k3 := K3.out w9 hbr
        clear K2 K3 hb8 H0 c0 c1 c2
        go_wp2_with fail
        refine k3.mono ?_
        rintro e w2 ⟨rfl, hb2⟩
        have hbx := hbr.trans (hb2.mono hbr.size)
        have k4 := K4.out w2 hbx
        clear k3 hb2 hbr K4
        go_wp2_with fail
        refine k4.mono ?_
        rintro e w3 ⟨rfl, hb3⟩
        have hby := hbx.trans (hb3.mono hbx.size)
        clear k4 hb3 hbx
        obtain ⟨⟨c0, c1, c2⟩, _⟩ := Kr.of (HK.out w3 hby).bk
        rcases hVj with ⟨rfl, rfl⟩ | ⟨hV0, rfl⟩
        · have eP : (A : Int) + (M : Int) = (P : Int) := by rw [HPj.out]; simp
          have dP : IntKind.i64.wrap ((A : Int) + (M : Int)) = (P : Int) := by rw [eP, IntKind.wrap_i64]; omega
          have dP2 : IntKind.i64.wrap (P : Int) = (P : Int) := by rw [IntKind.wrap_i64]; omega
          go_wp2
          go_quiet (fail)
          obtain ⟨w4, hw4⟩ : ∃ W, W = w3.drewN nq := ⟨_, rfl⟩
          have hb4 : Below w.heap.size w w4 := by rw [hw4]; exact below_drewN hby _
          obtain ⟨V4, hV4⟩ : ∃ V, V = w4.alloc (.cells #[.int .u32 (Z : Int)] 48) := ⟨_, rfl⟩
          have hbV : Below w.heap.size w V4 := by rw [hV4]; exact hb4.alloc hb4.size _
          have kp : Calls Try.prog 39 #[.slice none 0 0, .slice (some ⟨w4.heap.size, 0, none⟩) 1 1] V4 _ := refput_own V4 none (some ⟨w4.heap.size, 0, none⟩) 0 1 [] [Z] (Sees.nil' V4) (by rw [hV4]; exact Words.lit w4 48 [Z] (by simp) (by simpa using hZl)) (by simp) (by simp)
          rw [← hw4]
          clear hw4
          go_wp2_with fail
          rw [← hV4]
          clear hV4
          refine kp.mono ?_
          rintro e w5a ⟨d3, cd3, q, hq, rfl, hs3, hb3, ho3⟩
          have hb5a : Below w.heap.size w w5a := hbV.trans (hb3.mono hbV.size)
          clear kp hs3
          obtain ⟨v4, w5, hrun, ho4, hbe4⟩ := append_own_any w5a V4.heap.size (.slice d3 q.length cd3) q ho3 x cx l (HXS.out w5a hb5a) (by rw [hq.out]; have := HLL.out; simp [w4s_length]; omega) hb3.size
          have HA : Hid ((Builtin.append_ #[22, 22] 22 #[.slice d3 q.length cd3, .slice x l.length cx]).run Try.prog w5a = .ok v4 w5) := hrun
          have hb5 : Below w.heap.size w w5 := hbe4 _ _ hb5a hbV.size
          obtain ⟨d4, cd4, hv4, hs4⟩ := Sees.of_own ho4
          have HS5 : Hid (Sees w5 d4 cd4 (q ++ l)) := hs4
          have HN5 : Hid (∀ bb off, d4 = some ⟨bb, off, none⟩ → q ++ l ≠ [] → ¬ G bb) := fun bb off he _ hG => by
            have h9 := HGl.out bb hG
            rcases ho4.2 with ⟨h0, _⟩ | ⟨g5, cap5, cur5, h0, hlow, _⟩
            · rw [hv4, he] at h0; simp at h0
            · rw [hv4, he] at h0
              simp only [Value.slice.injEq, Option.some.injEq, Addr.mk.injEq] at h0
              have := hbV.size
              omega
          subst hv4
          have HXB : Hid (fixL (q ++ l) = B) := by rw [HB.out, bodyL, hq.out, List.nil_append]; exact (rfl : fixL (w4s [Z] ++ l) = fixL (w4s [Z] ++ l))
          have HQL : Hid ((q ++ l).length ≤ 100) := by
            show (q ++ l).length ≤ 100
            rw [hq.out]; have := HLL.out; simp [w4s_length]; omega
          obtain ⟨X, hX⟩ : ∃ X, X = q ++ l := ⟨_, rfl⟩
          rw [← hX] at HA HS5 HN5 HXB HQL
          have HL5 : Hid (Left RF w5 G r t w5) := Left.rrefl (HK.out w5 hb5).fl
          have HBA : Hid (∀ w1 t1, Left RF w5 G r t1 w1 → RBA w1 v r A N) := fun w1 t1 hl1 => hl1.rba (HK.out w5 hb5).bk hGv
          have c5 := (HK.out w5 hb5).bk.c0
          have k1 := W1.out w5 w5 HL5.out
          clear hrun ho3 ho4 hbe4 hs4 hq hb3 hX c0 c1 c2 hb5a hbV hb4 hby W1 HB HXS
          go_wp2_with (first | (at_builtin; refine wpList_append_run rfl _ _ 22 rfl _ _ _ rfl rfl HA.out ?_))
          refine k1.mono ?_
          rintro e w6 ⟨rfl, hl6⟩
          have HL6 : Hid (Left RF w5 G r t1 w6) := hl6
          have c0 := (HBA.out _ _ hl6).c0
          clear k1 c5 hl6 HA
          by_cases h1 : E1 = 0
          · have W2 : Hid (∀ w1 w2 y cy, Left RF w5 G r t1 w1 → Below w1.heap.size w1 w2 → Sees w2 y cy B → (∀ bb off, y = some ⟨bb, off, none⟩ → B ≠ [] → w1.heap.size ≤ bb) → Calls Try.prog 10 #[.pointer (some ⟨r, 0, none⟩), .int .i64 ((P : Int) + 1), .slice y B.length cy] w2 fun e w' => e = .returned (.int .i64 (E2 : Int)) ∧ Left RF w5 G r t2 w') := fun w1 w2 y cy => W2'.out w5 w1 w2 y cy
            have hbd6 : Below w6.heap.size w6 w6.drew := (Below.refl _ _).drew
            have k4 := rfix_any w6.drew d4 cd4 X ((HL6.out.rsees HS5.out HN5.out).below hbd6) (by have := HQL.out; omega)
            subst h1
            clear W2'
            go_wp2
            refine wp_region_noPanic ?_
            refine wp_region_held (S := fun W => W.cell? ⟨v, 0, none⟩ = some (.pointer (some ⟨r, 0, none⟩))) (by kernel_rfl) ?_
            have hS := (c0 : (fun W : World => W.cell? ⟨v, 0, none⟩ = some (.pointer (some ⟨r, 0, none⟩))) w6.drew)
            refine any_take 0 ?vr17an1 rfl (by kernel_rfl) (by kernel_rfl) (by kernel_rfl) (fun _ _ _ h => h) (by rfl) ?hr17an1 hS ?_
            case hr17an1 => (intro w hSw; (try dsimp only at hSw); go_split_ands; go_simp; (try with_reducible rfl))
            (try simp only [Act.put, List.setIfInBounds_toArray, List.set_cons_zero, List.set_cons_succ])
            refine any_take 1 ?vr17an2 rfl (by kernel_rfl) (by kernel_rfl) (by kernel_rfl) (fun _ _ _ h => h) (by rfl) ?hr17an2 hS ?_
            case hr17an2 => (intro w hSw; (try dsimp only at hSw); go_split_ands; go_simp; (try with_reducible rfl))
            (try simp only [Act.put, List.setIfInBounds_toArray, List.set_cons_zero, List.set_cons_succ])
            refine any_take 2 ?vr17an3 rfl (by kernel_rfl) (by kernel_rfl) (by kernel_rfl) (fun _ _ _ h => h) (by rfl) ?hr17an3 hS ?_
            case hr17an3 => (intro w hSw; (try dsimp only at hSw); go_split_ands; go_simp; (try with_reducible rfl))
            (try simp only [Act.put, List.setIfInBounds_toArray, List.set_cons_zero, List.set_cons_succ])
            refine any_take 3 ?vr17an4 rfl (by kernel_rfl) (by kernel_rfl) (by kernel_rfl) (fun _ _ _ h => h) (by rfl) ?hr17an4 hS ?_
            case hr17an4 => (intro w hSw; (try dsimp only at hSw); go_split_ands; go_simp; (try with_reducible rfl))
            (try simp only [Act.put, List.setIfInBounds_toArray, List.set_cons_zero, List.set_cons_succ])
            refine any_take 4 ?vr17an5 rfl (by kernel_rfl) (by kernel_rfl) (by kernel_rfl) (fun _ _ _ h => h) (by rfl) ?hr17an5 hS ?_
            case hr17an5 => (intro w hSw; (try dsimp only at hSw); go_split_ands; go_simp; (try with_reducible rfl))
            (try simp only [Act.put, List.setIfInBounds_toArray, List.set_cons_zero, List.set_cons_succ])
            refine any_take 5 ?vr17an6 rfl (by kernel_rfl) (by kernel_rfl) (by kernel_rfl) (fun _ _ _ h => h) (by rfl) ?hr17an6 hS ?_
            case hr17an6 => (intro w hSw; (try dsimp only at hSw); go_split_ands; go_simp; (try with_reducible rfl))
            (try simp only [Act.put, List.setIfInBounds_toArray, List.set_cons_zero, List.set_cons_succ])
            refine any_take 6 ?vr17an7 rfl (by kernel_rfl) (by kernel_rfl) (by kernel_rfl) (fun _ _ _ h => h) (by rfl) ?hr17an7 hS ?_
            case hr17an7 => (intro w hSw; (try dsimp only at hSw); go_split_ands; go_simp; (try with_reducible rfl))
            (try simp only [Act.put, List.setIfInBounds_toArray, List.set_cons_zero, List.set_cons_succ])
            refine any_one 7 rfl (by kernel_rfl) (by rfl) (fun K hK => ?_)
            clear hS
            go_simp
            refine (k4.mono) ?_
            rintro e w7 ⟨d5, cd5, r5, hr5, rfl, hs5, hb5, ho5⟩
            have e5 : r5 = B := by rw [hr5.out, HXB.out]
            subst e5
            have hb7 : Below w6.heap.size w6 w7 := hbd6.trans (hb5.mono (Nat.le_refl _))
            have hfr : ∀ bb off, d5 = some ⟨bb, off, none⟩ → r5 ≠ [] → w6.heap.size ≤ bb := fun bb off he _ => by
              rcases ho5.2 with ⟨h0, _⟩ | ⟨g5, cap5, cur5, h0, hlow, _⟩
              · rw [he] at h0; simp at h0
              · rw [he] at h0
                simp only [Value.slice.injEq, Option.some.injEq, Addr.mk.injEq] at h0
                obtain ⟨⟨rfl, _⟩, _⟩ := h0
                exact hlow
            have c7 : w7.cell? ⟨v, 0, none⟩ = some (.pointer (some ⟨r, 0, none⟩)) := by rw [hb7.cell (World.block_lt_of_cell? _ _ c0)]; exact c0
            have k5 := W2.out w6 w7 d5 cd5 HL6.out hb7 hs5 hfr
            clear hr5 hs5 ho5 hfr hb5
            refine hK.out _ _ (c7) (fun hS => ?_)
            clear hK
            (try simp only [Act.put, List.setIfInBounds_toArray, List.set_cons_zero, List.set_cons_succ])
            refine any_one 8 rfl (by kernel_rfl) (by rfl) (fun K hK => ?_)
            clear hS
            go_simp
            refine k5.mono ?_
            rintro e w8 ⟨rfl, hl8⟩
            have HL8 : Hid (Left RF w5 G r t2 w8) := hl8
            have c8 := (HBA.out _ _ hl8).c0
            clear hl8 k5
            refine hK.out _ _ (c8) (fun hS => ?_)
            clear hK
            (try simp only [Act.put, List.setIfInBounds_toArray, List.set_cons_zero, List.set_cons_succ])
            refine any_take 9 ?vr17an8 rfl (by kernel_rfl) (by kernel_rfl) (by kernel_rfl) (fun _ _ _ h => h) (by rfl) ?hr17an8 hS ?_
            case hr17an8 => (intro w hSw; (try dsimp only at hSw); go_split_ands; go_simp; (try with_reducible rfl))
            (try simp only [Act.put, List.setIfInBounds_toArray, List.set_cons_zero, List.set_cons_succ])
            refine wpAnyH_done (by kernel_rfl) ?_ _
            refine NoPanic.normal ?_
            have hn90 : True := trivial
            by_cases h2 : E2 = 0
            · have k6 := W3.out w5 w8 HL8.out
              have HES2 : Hid (E = E3 ∧ S = t3) := by
                obtain ⟨q1, q2⟩ := HES.out
                rw [if_neg (by simp), if_neg (by omega)] at q1 q2
                exact ⟨q1, q2⟩
              subst h2
              clear HES W3
              go_wp2_with fail
              refine k6.mono ?_
              rintro e w10 ⟨rfl, hl10⟩
              have HL10 : Hid (Left RF w G r S w10) := by rw [HES2.out.2]; exact hl10.rbefore hb5
              clear k6 hl10
              go_wp2
              go_ret
              exact ⟨by rw [HES2.out.1]; rfl, HL10.out⟩
            · have dE2 : ((E2 : Int) == 0) = false := by simp; omega
              have HES2 : Hid (E = E2 ∧ S = t2) := by
                obtain ⟨q1, q2⟩ := HES.out
                rw [if_neg (by simp), if_pos h2] at q1 q2
                exact ⟨q1, q2⟩
              have HL10 : Hid (Left RF w G r S w8) := by rw [HES2.out.2]; exact HL8.out.rbefore hb5
              clear HES W3
              go_wp2
              go_ret
              exact ⟨by rw [HES2.out.1]; rfl, HL10.out⟩
          · have dE1 : ((E1 : Int) == 0) = false := by simp; omega
            have HES2 : Hid (E = E1 ∧ S = t1) := by
              obtain ⟨q1, q2⟩ := HES.out
              rw [if_pos h1] at q1 q2
              exact ⟨q1, q2⟩
            have HL10 : Hid (Left RF w G r S w6) := by rw [HES2.out.2]; exact HL6.out.rbefore hb5
            clear HES W3 W2'
            go_wp2
            go_ret
            exact ⟨by rw [HES2.out.1]; rfl, HL10.out⟩
        · have hPA : A = P := by rw [HPj.out]; simp
          have dV : (V == 0) = false := by simp [hV0]
          have dP2 : IntKind.i64.wrap (A : Int) = (A : Int) := by rw [IntKind.wrap_i64]; omega
          subst hPA
          go_wp2
          go_quiet (fail)
          obtain ⟨w4, hw4⟩ : ∃ W, W = w3.drewN nq := ⟨_, rfl⟩
          have hb4 : Below w.heap.size w w4 := by rw [hw4]; exact below_drewN hby _
          obtain ⟨V4, hV4⟩ : ∃ V, V = w4.alloc (.cells #[.int .u32 (Z : Int)] 48) := ⟨_, rfl⟩
          have hbV : Below w.heap.size w V4 := by rw [hV4]; exact hb4.alloc hb4.size _
          have kp : Calls Try.prog 39 #[.slice none 0 0, .slice (some ⟨w4.heap.size, 0, none⟩) 1 1] V4 _ := refput_own V4 none (some ⟨w4.heap.size, 0, none⟩) 0 1 [] [Z] (Sees.nil' V4) (by rw [hV4]; exact Words.lit w4 48 [Z] (by simp) (by simpa using hZl)) (by simp) (by simp)
          rw [← hw4]
          clear hw4
          go_wp2_with fail
          rw [← hV4]
          clear hV4
          refine kp.mono ?_
          rintro e w5a ⟨d3, cd3, q, hq, rfl, hs3, hb3, ho3⟩
          have hb5a : Below w.heap.size w w5a := hbV.trans (hb3.mono hbV.size)
          clear kp hs3
          obtain ⟨v4, w5, hrun, ho4, hbe4⟩ := append_own_any w5a V4.heap.size (.slice d3 q.length cd3) q ho3 x cx l (HXS.out w5a hb5a) (by rw [hq.out]; have := HLL.out; simp [w4s_length]; omega) hb3.size
          have HA : Hid ((Builtin.append_ #[22, 22] 22 #[.slice d3 q.length cd3, .slice x l.length cx]).run Try.prog w5a = .ok v4 w5) := hrun
          have hb5 : Below w.heap.size w w5 := hbe4 _ _ hb5a hbV.size
          obtain ⟨d4, cd4, hv4, hs4⟩ := Sees.of_own ho4
          have HS5 : Hid (Sees w5 d4 cd4 (q ++ l)) := hs4
          have HN5 : Hid (∀ bb off, d4 = some ⟨bb, off, none⟩ → q ++ l ≠ [] → ¬ G bb) := fun bb off he _ hG => by
            have h9 := HGl.out bb hG
            rcases ho4.2 with ⟨h0, _⟩ | ⟨g5, cap5, cur5, h0, hlow, _⟩
            · rw [hv4, he] at h0; simp at h0
            · rw [hv4, he] at h0
              simp only [Value.slice.injEq, Option.some.injEq, Addr.mk.injEq] at h0
              have := hbV.size
              omega
          subst hv4
          have HXB : Hid (fixL (q ++ l) = B) := by rw [HB.out, bodyL, hq.out, List.nil_append]; exact (rfl : fixL (w4s [Z] ++ l) = fixL (w4s [Z] ++ l))
          have HQL : Hid ((q ++ l).length ≤ 100) := by
            show (q ++ l).length ≤ 100
            rw [hq.out]; have := HLL.out; simp [w4s_length]; omega
          obtain ⟨X, hX⟩ : ∃ X, X = q ++ l := ⟨_, rfl⟩
          rw [← hX] at HA HS5 HN5 HXB HQL
          have HL5 : Hid (Left RF w5 G r t w5) := Left.rrefl (HK.out w5 hb5).fl
          have HBA : Hid (∀ w1 t1, Left RF w5 G r t1 w1 → RBA w1 v r A N) := fun w1 t1 hl1 => hl1.rba (HK.out w5 hb5).bk hGv
          have c5 := (HK.out w5 hb5).bk.c0
          have k1 := W1.out w5 w5 HL5.out
          clear hrun ho3 ho4 hbe4 hs4 hq hb3 hX c0 c1 c2 hb5a hbV hb4 hby W1 HB HXS
          go_wp2_with (first | (at_builtin; refine wpList_append_run rfl _ _ 22 rfl _ _ _ rfl rfl HA.out ?_))
          refine k1.mono ?_
          rintro e w6 ⟨rfl, hl6⟩
          have HL6 : Hid (Left RF w5 G r t1 w6) := hl6
          have c0 := (HBA.out _ _ hl6).c0
          clear k1 c5 hl6 HA
          by_cases h1 : E1 = 0
          · have W2 : Hid (∀ w1 w2 y cy, Left RF w5 G r t1 w1 → Below w1.heap.size w1 w2 → Sees w2 y cy B → (∀ bb off, y = some ⟨bb, off, none⟩ → B ≠ [] → w1.heap.size ≤ bb) → Calls Try.prog 10 #[.pointer (some ⟨r, 0, none⟩), .int .i64 ((A : Int) + 1), .slice y B.length cy] w2 fun e w' => e = .returned (.int .i64 (E2 : Int)) ∧ Left RF w5 G r t2 w') := fun w1 w2 y cy => W2'.out w5 w1 w2 y cy
            have hbd6 : Below w6.heap.size w6 w6.drew := (Below.refl _ _).drew
            have k4 := rfix_any w6.drew d4 cd4 X ((HL6.out.rsees HS5.out HN5.out).below hbd6) (by have := HQL.out; omega)
            subst h1
            clear W2'
            go_wp2
            refine wp_region_noPanic ?_
            refine wp_region_held (S := fun W => W.cell? ⟨v, 0, none⟩ = some (.pointer (some ⟨r, 0, none⟩))) (by kernel_rfl) ?_
            have hS := (c0 : (fun W : World => W.cell? ⟨v, 0, none⟩ = some (.pointer (some ⟨r, 0, none⟩))) w6.drew)
            refine any_take 0 ?vr17bn1 rfl (by kernel_rfl) (by kernel_rfl) (by kernel_rfl) (fun _ _ _ h => h) (by rfl) ?hr17bn1 hS ?_
            case hr17bn1 => (intro w hSw; (try dsimp only at hSw); go_split_ands; go_simp; (try with_reducible rfl))
            (try simp only [Act.put, List.setIfInBounds_toArray, List.set_cons_zero, List.set_cons_succ])
            refine any_take 1 ?vr17bn2 rfl (by kernel_rfl) (by kernel_rfl) (by kernel_rfl) (fun _ _ _ h => h) (by rfl) ?hr17bn2 hS ?_
            case hr17bn2 => (intro w hSw; (try dsimp only at hSw); go_split_ands; go_simp; (try with_reducible rfl))
            (try simp only [Act.put, List.setIfInBounds_toArray, List.set_cons_zero, List.set_cons_succ])
            refine any_take 2 ?vr17bn3 rfl (by kernel_rfl) (by kernel_rfl) (by kernel_rfl) (fun _ _ _ h => h) (by rfl) ?hr17bn3 hS ?_
            case hr17bn3 => (intro w hSw; (try dsimp only at hSw); go_split_ands; go_simp; (try with_reducible rfl))
            (try simp only [Act.put, List.setIfInBounds_toArray, List.set_cons_zero, List.set_cons_succ])
            refine any_take 3 ?vr17bn4 rfl (by kernel_rfl) (by kernel_rfl) (by kernel_rfl) (fun _ _ _ h => h) (by rfl) ?hr17bn4 hS ?_
            case hr17bn4 => (intro w hSw; (try dsimp only at hSw); go_split_ands; go_simp; (try with_reducible rfl))
            (try simp only [Act.put, List.setIfInBounds_toArray, List.set_cons_zero, List.set_cons_succ])
            refine any_take 4 ?vr17bn5 rfl (by kernel_rfl) (by kernel_rfl) (by kernel_rfl) (fun _ _ _ h => h) (by rfl) ?hr17bn5 hS ?_
            case hr17bn5 => (intro w hSw; (try dsimp only at hSw); go_split_ands; go_simp; (try with_reducible rfl))
            (try simp only [Act.put, List.setIfInBounds_toArray, List.set_cons_zero, List.set_cons_succ])
            refine any_take 5 ?vr17bn6 rfl (by kernel_rfl) (by kernel_rfl) (by kernel_rfl) (fun _ _ _ h => h) (by rfl) ?hr17bn6 hS ?_
            case hr17bn6 => (intro w hSw; (try dsimp only at hSw); go_split_ands; go_simp; (try with_reducible rfl))
            (try simp only [Act.put, List.setIfInBounds_toArray, List.set_cons_zero, List.set_cons_succ])
            refine any_take 6 ?vr17bn7 rfl (by kernel_rfl) (by kernel_rfl) (by kernel_rfl) (fun _ _ _ h => h) (by rfl) ?hr17bn7 hS ?_
            case hr17bn7 => (intro w hSw; (try dsimp only at hSw); go_split_ands; go_simp; (try with_reducible rfl))
            (try simp only [Act.put, List.setIfInBounds_toArray, List.set_cons_zero, List.set_cons_succ])
            refine any_one 7 rfl (by kernel_rfl) (by rfl) (fun K hK => ?_)
            clear hS
            go_simp
            refine (k4.mono) ?_
            rintro e w7 ⟨d5, cd5, r5, hr5, rfl, hs5, hb5, ho5⟩
            have e5 : r5 = B := by rw [hr5.out, HXB.out]
            subst e5
            have hb7 : Below w6.heap.size w6 w7 := hbd6.trans (hb5.mono (Nat.le_refl _))
            have hfr : ∀ bb off, d5 = some ⟨bb, off, none⟩ → r5 ≠ [] → w6.heap.size ≤ bb := fun bb off he _ => by
              rcases ho5.2 with ⟨h0, _⟩ | ⟨g5, cap5, cur5, h0, hlow, _⟩
              · rw [he] at h0; simp at h0
              · rw [he] at h0
                simp only [Value.slice.injEq, Option.some.injEq, Addr.mk.injEq] at h0
                obtain ⟨⟨rfl, _⟩, _⟩ := h0
                exact hlow
            have c7 : w7.cell? ⟨v, 0, none⟩ = some (.pointer (some ⟨r, 0, none⟩)) := by rw [hb7.cell (World.block_lt_of_cell? _ _ c0)]; exact c0
            have k5 := W2.out w6 w7 d5 cd5 HL6.out hb7 hs5 hfr
            clear hr5 hs5 ho5 hfr hb5
            refine hK.out _ _ (c7) (fun hS => ?_)
            clear hK
            (try simp only [Act.put, List.setIfInBounds_toArray, List.set_cons_zero, List.set_cons_succ])
            refine any_one 8 rfl (by kernel_rfl) (by rfl) (fun K hK => ?_)
            clear hS
            go_simp
            refine k5.mono ?_
            rintro e w8 ⟨rfl, hl8⟩
            have HL8 : Hid (Left RF w5 G r t2 w8) := hl8
            have c8 := (HBA.out _ _ hl8).c0
            clear hl8 k5
            refine hK.out _ _ (c8) (fun hS => ?_)
            clear hK
            (try simp only [Act.put, List.setIfInBounds_toArray, List.set_cons_zero, List.set_cons_succ])
            refine any_take 9 ?vr17bn8 rfl (by kernel_rfl) (by kernel_rfl) (by kernel_rfl) (fun _ _ _ h => h) (by rfl) ?hr17bn8 hS ?_
            case hr17bn8 => (intro w hSw; (try dsimp only at hSw); go_split_ands; go_simp; (try with_reducible rfl))
            (try simp only [Act.put, List.setIfInBounds_toArray, List.set_cons_zero, List.set_cons_succ])
            refine wpAnyH_done (by kernel_rfl) ?_ _
            refine NoPanic.normal ?_
            have hn90 : True := trivial
            by_cases h2 : E2 = 0
            · have k6 := W3.out w5 w8 HL8.out
              have HES2 : Hid (E = E3 ∧ S = t3) := by
                obtain ⟨q1, q2⟩ := HES.out
                rw [if_neg (by simp), if_neg (by omega)] at q1 q2
                exact ⟨q1, q2⟩
              subst h2
              clear HES W3
              go_wp2_with fail
              refine k6.mono ?_
              rintro e w10 ⟨rfl, hl10⟩
              have HL10 : Hid (Left RF w G r S w10) := by rw [HES2.out.2]; exact hl10.rbefore hb5
              clear k6 hl10
              go_wp2
              go_ret
              exact ⟨by rw [HES2.out.1]; rfl, HL10.out⟩
            · have dE2 : ((E2 : Int) == 0) = false := by simp; omega
              have HES2 : Hid (E = E2 ∧ S = t2) := by
                obtain ⟨q1, q2⟩ := HES.out
                rw [if_neg (by simp), if_pos h2] at q1 q2
                exact ⟨q1, q2⟩
              have HL10 : Hid (Left RF w G r S w8) := by rw [HES2.out.2]; exact HL8.out.rbefore hb5
              clear HES W3
              go_wp2
              go_ret
              exact ⟨by rw [HES2.out.1]; rfl, HL10.out⟩
          · have dE1 : ((E1 : Int) == 0) = false := by simp; omega
            have HES2 : Hid (E = E1 ∧ S = t1) := by
              obtain ⟨q1, q2⟩ := HES.out
              rw [if_pos h1] at q1 q2
              exact ⟨q1, q2⟩
            have HL10 : Hid (Left RF w G r S w6) := by rw [HES2.out.2]; exact HL6.out.rbefore hb5
            clear HES W3 W2'
            go_wp2
            go_ret
            exact ⟨by rw [HES2.out.1]; rfl, HL10.out⟩

    · have K2 : Hid (∀ W, Kr w v r A N W → Calls Try.prog 37 #[.pointer (some ⟨r, 0, none⟩), .int .i64 (A : Int), .int .i64 0] W fun e w' => ∃ d cd, e = .returned (.tuple #[.slice d 0 cd, .int .i64 5]) ∧ Below W.heap.size W w' ∧ Below w.heap.size w w') := fun W hb => by
        refine (rread_none W v r A N t G (h.below hb.2) 5 (by rw [hd]; rfl)).mono ?_
        rintro e w' ⟨d, cd, h1, h2⟩
        exact ⟨d, cd, h1, h2, hb.2.trans (h2.mono hb.2.size)⟩
      have HE : Hid (E = 5 ∧ S = t) := by
        constructor
        · rw [hE, rsaveE, if_neg (by simp [hl]), if_pos hd]
        · rw [hS, rsaveT, if_neg (by simp [hl]), if_pos hd]
      clear h hx hE hS hd hl HK
      go_enter Try.func16, Try.ntmps16
      go_wp2
      go_region_held3 (fun W => (W.cell? ⟨v, 0, none⟩ = some (.pointer (some ⟨r, 0, none⟩)) ∧ W.cell? ⟨v, 1, none⟩ = some (.int .i64 (A : Int)) ∧ W.cell? ⟨v, 2, none⟩ = some (.int .i64 (N : Int))) ∧ Below w.heap.size w W)
        (first | exact H0.out | assumption | exact H0.out.drew | exact Kr.drew (by assumption) | exact Kr.below (by assumption) (by assumption))
        (first | (go_at_call 37; (with_reducible refine (K2.out _ ?_).mono ?_); (focus (first | exact H0.out | assumption | exact H0.out.drew | exact Kr.drew (by assumption) | exact Kr.below (by assumption) (by assumption))); rintro e w9 ⟨d, cd, rfl, hb8, hbr⟩))
      have HL2 : Hid (Left RF w G r t w9) := HL0.out.rnext hbr
      clear K2 hb8 H0 c0 c1 c2
      go_wp2
      go_ret
      exact ⟨by rw [HE.out.1]; rfl, by rw [HE.out.2]; exact HL2.out⟩
  · have HE : Hid (E = 1 ∧ S = t) := by
      constructor
      · rw [hE, rsaveE, if_pos hl]
      · rw [hS, rsaveT, if_pos hl]
    have hlN : ((l.length : Int) == (N : Int)) = false := by simp; omega
    have hlN2 : ¬ (l.length : Int) = (N : Int) := by omega
    clear h hx hE hS hl HK
    go_enter Try.func16, Try.ntmps16
    go_wp2
    go_ret
    exact ⟨by rw [HE.out.1]; rfl, by rw [HE.out.2]; exact HL0.out⟩
end Go.Proofs.Ytgnllmcgebonpaa
