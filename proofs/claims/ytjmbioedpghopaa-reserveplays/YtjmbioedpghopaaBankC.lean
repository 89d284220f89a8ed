/-
  The contract of those: what stands in the banks of which a look says yes.

  What those and newest tell of a dead flash.
-/
import Derived.Test.YtjmbioedpghopaaBankB
namespace Go.Proofs.Ytjmbioedpghopaa
open Go.ChangeShapes Go.WideShapes Go.ChangeAt Go.RowKit

theorem whole_run (W : World) (a : Option Addr) (n c : Nat) (i : Int) : (method 262 121 (.agg #[.slice a n c, .int .i64 i]) "carillon/bank.whole").run Try.prog W = .ok (74, .slice a n c) W := by kernel_rfl
theorem signed_run (W : World) (a : Option Addr) (n c : Nat) (i : Int) : (method 262 121 (.agg #[.slice a n c, .int .i64 i]) "carillon/bank.signed").run Try.prog W = .ok (72, .slice a n c) W := by kernel_rfl
theorem whole_call (args : Array Value) (W : World) : (callFunc 74 args).run Try.prog W = .ok (.enter 74 args) W := by simp [callFunc, Try.func74, Try.f74]
theorem signed_call (args : Array Value) (W : World) : (callFunc 72 args).run Try.prog W = .ok (.enter 72 args) W := by simp [callFunc, Try.func72, Try.f72]

theorem contInfo : (Try.prog.info? 121).map (fun i => (i.zero, i.size, i.bytes)) = some (some (.agg #[.slice none 0 0, .int .i64 0]), 2, 32) := by kernel_rfl

/-- What stands in a bank: the block of its row, the row's room, its bytes, which bank. -/
abbrev It := Nat × Nat × List UInt8 × Nat
def encI (M : Nat) (x : It) : List Value := [.slice (some ⟨x.1, 0, none⟩) M x.2.1, .int .i64 (x.2.2.2 : Int)]
def flatI (M : Nat) (L : List It) : List Value := L.flatMap (encI M)
theorem flatI_append (M : Nat) (L K : List It) : flatI M (L ++ K) = flatI M L ++ flatI M K := by simp [flatI]
theorem two_new (w : World) (a b : Value) : ∀ j u, [a, b][j]? = some u → (w.alloc (.cells #[a, b] 121)).cell? ((⟨w.heap.size, 0, none⟩ : Addr).add j) = some u := by
  intro j u hu
  rw [Addr.add_lit, Nat.zero_add, cell_of_row _ _ j _ _ _ (heap_alloc_new w _)]
  simpa using hu
theorem own_keepI {w w' : World} {B n B' : Nat} {v : Value} {xs : List Value} (h : w.ownsRow B 121 2 v n xs) (hb : Below B' w w') (hB : B' = w.heap.size := by rfl) : w'.ownsRow B 121 2 v n xs := by
  subst hB
  refine ⟨h.1, ?_⟩
  rcases h.2 with h0 | ⟨g, cap, cur, rfl, hlow, hg, h4, h5, h6, h7⟩
  · exact .inl h0
  · exact .inr ⟨g, cap, cur, rfl, hlow, by rw [hb.block g (Array.getElem?_eq_some_iff.1 hg).1]; exact hg, h4, h5, h6, h7⟩

/-- What a bank's fields are behind any calls. -/
def Kb (w : World) (b g N : Nat) (W : World) : Prop := (W.cell? ⟨b, 0, none⟩ = some (.pointer (some ⟨g, 0, none⟩)) ∧ W.cell? ⟨b, 2, none⟩ = some (.int .i64 (N : Int))) ∧ b < w.heap.size ∧ Below w.heap.size w W
theorem Kb.below {w W W' : World} {b g N : Nat} (h : Kb w b g N W) (hb : Below W.heap.size W W') : Kb w b g N W' := by
  obtain ⟨⟨h1, h2⟩, h3, h4⟩ := h
  exact ⟨⟨by rw [hb.cell (World.block_lt_of_cell? W _ h1)]; exact h1, by rw [hb.cell (World.block_lt_of_cell? W _ h2)]; exact h2⟩, h3, h4.trans (hb.mono h4.size)⟩
theorem Kb.drew {w W : World} {b g N : Nat} (h : Kb w b g N W) : Kb w b g N W.drew := ⟨h.1, h.2.1, h.2.2.drew⟩
theorem Kb.of {w : World} {b g A N : Nat} (h : BA w b g A N) : Kb w b g N w := ⟨⟨h.c0, h.c2⟩, h.lt, Below.refl _ _⟩

/-- The rows of the two banks, and which they are. -/
def rowL (s : PS) (A N k : Nat) : List UInt8 := (s.b.drop (A + k * (N + 8))).take (N + 8)
def twoL (s : PS) (A N : Nat) : List (List UInt8 × Nat) := [(rowL s A N 0, 0), (rowL s A N 1, 1)]
theorem rowL_len (s : PS) (A N k : Nat) (hk : k ≤ 1) (h : A + 2 * (N + 8) ≤ s.b.length) : (rowL s A N k).length = N + 8 := by
  unfold rowL
  have : k * (N + 8) ≤ 1 * (N + 8) := Nat.mul_le_mul_right _ hk
  simp; omega

theorem two_next (s : PS) (A N : Nat) (p : List UInt8 → Bool) (j : Nat) (hj : j < 2) (X : List UInt8) (hX : X = rowL s A N j) :
    ((twoL s A N).take (j + 1)).filter (fun q => p q.1) = ((twoL s A N).take j).filter (fun q => p q.1) ++ if p X then [(X, j)] else [] := by
  rcases (by omega : j = 0 ∨ j = 1) with rfl | rfl
  · simp only [twoL, ← hX]
    cases hp : p X <;> simp [hp]
  · simp only [twoL, ← hX]
    cases hp : p X <;> cases h0 : p (rowL s A N 0) <;> simp [hp, h0]

set_option maxHeartbeats 3200000 in
set_option maxRecDepth 20000 in
theorem those_ok (nm : String) (f : Nat) (p : List UInt8 → Bool) (HM : ∀ (W : World) (a : Option Addr) (n c : Nat) (i : Int), (method 262 121 (.agg #[.slice a n c, .int .i64 i]) nm).run Try.prog W = .ok (f, .slice a n c) W)
    (HC : ∀ (args : Array Value) (W : World), (callFunc f args).run Try.prog W = .ok (.enter f args) W)
    (HL : ∀ (W : World) (d cd m : Nat) (l : List UInt8), RowAt W d cd l → l.length = m + 1 → 7 ≤ m → m ≤ 1000 → Calls Try.prog f #[.slice (some ⟨d, 0, none⟩) (m + 1) cd] W fun e w' => e = .returned (.bool (p l)) ∧ Below W.heap.size W w')
    (w : World) (b g A N : Nat) (s : PS) (F : Nat → Prop) (hP : PF w g s F) (hB : BA w b g A N) (hd : s.dead = false) (hA : A + 2 * (N + 8) ≤ s.b.length) (hN : N ≤ 64) (hs4 : s.b.length ≤ 4096) :
    Calls Try.prog 71 #[.pointer (some ⟨b, 0, none⟩), .func (.methodOf 121 nm) #[] #[]] w fun e w' => ∃ v L, e = .returned (.tuple #[v, .int .i64 0]) ∧ w'.ownsRow w.heap.size 121 2 v L.length (flatI (N + 8) L) ∧ (∀ x ∈ L, RowAt w' x.1 x.2.1 x.2.2.1) ∧ L.map (·.2.2) = (twoL s A N).filter (fun q => p q.1) ∧ Below w.heap.size w w' := by
  obtain ⟨i0, hi, hz0, hz1, hz2⟩ := info_parts contInfo
  obtain ⟨m, hm⟩ : ∃ m, m = N + 7 := ⟨_, rfl⟩
  have HS : Hid (∀ W, Below w.heap.size w W → PF W g s F ∧ BA W b g A N) := fun W hb => ⟨pf_kept.below hP hb, hB.below hb⟩
  have hst := bstands_ok w b g A N hB
  have hM8 : N + 8 = m + 1 := by omega
  rw [hM8]
  have HPL : Hid (∀ (W : World) (k P : Nat), Below w.heap.size w W → k ≤ 1 → P = A + k * (N + 8) → Calls Try.prog 78 #[.pointer (some ⟨b, 0, none⟩), .int .i64 (k : Int)] W fun e w' => e = .returned (.int .i64 (P : Int)) ∧ Below W.heap.size W w') := fun W k P hb hk hPP => place_ok W b g A N k P (HS.out W hb).2 (by omega) hN hk hPP
  have HRD : Hid (∀ (W : World) (k P : Nat), Below w.heap.size w W → k ≤ 1 → P = A + k * (N + 8) → Calls Try.prog 45 #[.pointer (some ⟨g, 0, none⟩), .int .i64 (P : Int), .int .i64 ((m + 1 : Nat) : Int)] W fun e w' => ∃ d cd, e = .returned (.tuple #[.slice (some ⟨d, 0, none⟩) (m + 1) cd, .int .i64 0]) ∧ RowAt w' d cd (rowL s A N k) ∧ Below W.heap.size W w') := fun W k P hb hk hPP =>
    read_row W g s F (HS.out W hb).1 hd P (m + 1) (by rw [hPP, ← hM8]; have : k * (N + 8) ≤ 1 * (N + 8) := Nat.mul_le_mul_right _ hk; omega) _ (by unfold rowL; rw [hPP, ← hM8])
  have HLK : Hid (∀ (W : World) (d cd k : Nat), RowAt W d cd (rowL s A N k) → k ≤ 1 → Calls Try.prog f #[.slice (some ⟨d, 0, none⟩) (m + 1) cd] W fun e w' => e = .returned (.bool (p (rowL s A N k))) ∧ Below W.heap.size W w') := fun W d cd k hr hk =>
    HL W d cd m _ hr (by rw [rowL_len s A N k hk hA]; omega) (by omega) (by omega)
  clear hP hB HL hs4 hd hA
  go_enter Try.func71, Try.ntmps71
  go_wp2_with fail
  refine hst.mono ?_
  rintro e w1 ⟨rfl, rfl⟩
  clear hst
  go_wp2
  go_loopw [6, 14] (fun t u wr => ∃ j : Nat, j ≤ 2 ∧ u = .int .i64 (j : Int) ∧ ∃ L, wr.ownsRow w1.heap.size 121 2 t L.length (flatI (m + 1) L) ∧ (∀ x ∈ L, RowAt wr x.1 x.2.1 x.2.2.1) ∧ L.map (·.2.2) = ((twoL s A N).take j).filter (fun q => p q.1) ∧ Below w1.heap.size w1 wr) (fun _ u _ => 2 - (intOf u).toNat)
  case atStart => exact ⟨0, by omega, rfl, [], World.ownsRow_nil _ _ _ _, by simp, rfl, Below.refl _ _⟩
  case round =>
    obtain ⟨j, hj, rfl, L, hown, hrows, hmap, hbel⟩ := hrel
    by_cases hlt : j < 2
    · obtain ⟨P, hPP⟩ : ∃ P, P = A + j * (N + 8) := ⟨_, rfl⟩
      have H0 : Hid (Kb wr b g N wr) := Kb.of (HS.out wr hbel).2
      have K1 : Hid (∀ W, Kb wr b g N W → Calls Try.prog 78 #[.pointer (some ⟨b, 0, none⟩), .int .i64 (j : Int)] W fun e w' => e = .returned (.int .i64 (P : Int)) ∧ Below W.heap.size W w') := fun W hb => HPL.out W j P (hbel.trans (hb.2.2.mono hbel.size)) (by omega) hPP
      have K2 : Hid (∀ W, Kb wr b g N W → Calls Try.prog 45 #[.pointer (some ⟨g, 0, none⟩), .int .i64 (P : Int), .int .i64 ((m : Int) + 1)] W fun e w' => ∃ d cd, e = .returned (.tuple #[.slice (some ⟨d, 0, none⟩) (m + 1) cd, .int .i64 0]) ∧ RowAt w' d cd (rowL s A N j) ∧ Below W.heap.size W w' ∧ Below wr.heap.size wr w') := fun W hb => by
        have := HRD.out W j P (hbel.trans (hb.2.2.mono hbel.size)) (by omega) hPP
        rw [show ((m + 1 : Nat) : Int) = (m : Int) + 1 by omega] at this
        refine this.mono ?_
        rintro e w' ⟨d, cd, h1, h2, h3⟩
        exact ⟨d, cd, h1, h2, h3, hb.2.2.trans (h3.mono hb.2.2.size)⟩
      have e1 : (N : Int) + 8 = (m : Int) + 1 := by omega
      have e2 : IntKind.i64.wrap ((m : Int) + 1) = (m : Int) + 1 := by rw [IntKind.wrap_i64]; omega
      have e3 : IntKind.i64.wrap ((N : Int) + 8) = (m : Int) + 1 := by rw [e1, e2]
      have g1 : (j : Int) < 2 := by omega
      have HJ : Hid (j < 2) := hlt
      clear HPL HRD hPP hm hM8 hlt
      obtain ⟨⟨cb0, cb2⟩, _⟩ := H0.out
      have HX : Hid (wr.ownsRow w1.heap.size 121 2 u6 L.length (flatI (m + 1) L) ∧ (∀ x ∈ L, RowAt wr x.1 x.2.1 x.2.2.1)) := ⟨hown, hrows⟩
      clear hown hrows
      go_wp2
      go_region_held3 (fun W => (W.cell? ⟨b, 0, none⟩ = some (.pointer (some ⟨g, 0, none⟩)) ∧ W.cell? ⟨b, 2, none⟩ = some (.int .i64 (N : Int))) ∧ b < wr.heap.size ∧ Below wr.heap.size wr W)
        (first | exact H0.out | assumption | exact H0.out.drew | exact Kb.drew (by assumption) | exact Kb.below (by assumption) (by assumption))
        (first | (go_at_call 78; refine (K1.out _ ?_).mono ?_; (focus (first | exact H0.out | assumption | exact H0.out.drew | exact Kb.drew (by assumption) | exact Kb.below (by assumption) (by assumption))); rintro e w9 ⟨rfl, hb9⟩)
               | (go_at_call 45; refine (K2.out _ ?_).mono ?_; (focus (first | exact H0.out | assumption | exact H0.out.drew | exact Kb.drew (by assumption) | exact Kb.below (by assumption) (by assumption))); rintro e w9 ⟨d, cd, rfl, hr9, hb8, hbr⟩))
      clear hb8 hb9 K1 K2 cb0 cb2 H0
      obtain ⟨X, hXd⟩ : ∃ X, X = rowL s A N j := ⟨_, rfl⟩
      rw [← hXd] at hr9
      have hW : Below w9.heap.size w9 (w9.alloc (.cells #[.slice (some ⟨d, 0, none⟩) (m + 1) cd, .int .i64 (j : Int)] 121)) := (Below.refl _ _).alloc (Nat.le_refl _) _
      have hlk := HLK.out (w9.alloc (.cells #[.slice (some ⟨d, 0, none⟩) (m + 1) cd, .int .i64 (j : Int)] 121)) d cd j (by rw [← hXd]; exact hr9.below hW) (by have := HJ.out; omega)
      rw [← hXd] at hlk
      have HN : Hid (((twoL s A N).take (j + 1)).filter (fun q => p q.1) = ((twoL s A N).take j).filter (fun q => p q.1) ++ if p X then [(X, j)] else []) := two_next s A N p j HJ.out X hXd
      have HY : Hid (w9.ownsRow w1.heap.size 121 2 u6 L.length (flatI (m + 1) L) ∧ (∀ x ∈ L, RowAt w9 x.1 x.2.1 x.2.2.1) ∧ RowAt w9 d cd X ∧ Below w1.heap.size w1 w9) :=
        ⟨own_keepI HX.out.1 hbr, fun x hx => (HX.out.2 x hx).below hbr, hr9, hbel.trans (hbr.mono hbel.size)⟩
      have HLL : Hid (L.length ≤ 2) := by
        have := congrArg List.length hmap
        rw [List.length_map] at this
        show L.length ≤ 2
        rw [this]
        refine Nat.le_trans (List.length_filter_le _ _) ?_
        simp [twoL]; omega
      have HMP : Hid (L.map (·.2.2) = ((twoL s A N).take j).filter (fun q => p q.1)) := hmap
      clear hXd hr9 hbr HX HLK hmap HS
      cases hp : p X
      · rw [hp] at hlk HN
        go_wp2_with fail
        refine hlk.mono ?_
        rintro e w2 ⟨rfl, hb2⟩
        have hb3 := hW.trans (hb2.mono (by simp))
        clear hlk hb2
        go_wp2
        go_roundw
        case rel => exact ⟨j + 1, HJ.out, by first | go_num | (congr 1; omega), L, own_keepI HY.out.1 hb3, fun x hx => (HY.out.2.1 x hx).below hb3, by rw [HN.out, HMP.out]; simp, HY.out.2.2.2.trans (hb3.mono HY.out.2.2.2.size)⟩
        case measure => have := HJ.out; simp [intOf]; omega
      · rw [hp] at hlk HN
        go_wp2_with fail
        refine hlk.mono ?_
        rintro e w2 ⟨rfl, hb2⟩
        obtain ⟨x0, x1, x2, x3⟩ := ((Cont.new w9 (.slice (some ⟨d, 0, none⟩) (m + 1) cd) (.int .i64 (j : Int))).below hb2).facts
        have hb3 := hW.trans (hb2.mono (by simp))
        have HO : Hid (w2.ownsRow w1.heap.size 121 2 u6 L.length (flatI (m + 1) L)) := own_keepI HY.out.1 hb3
        have bel2 : Below w1.heap.size w1 w2 := HY.out.2.2.2.trans (hb3.mono HY.out.2.2.2.size)
        have hbs := bel2.size
        have hLL := HLL.out
        clear hlk hb2
        go_wp2_with (at_builtin; have t1 := HO.out.alloc (.cells #[.slice (some ⟨d, 0, none⟩) (m + 1) cd, .int .i64 (j : Int)] 121); refine wpList_append_own _ rfl _ _ 127 rfl w1.heap.size 121 i0 (.agg #[.slice none 0 0, .int .i64 0]) 2 32 Try.underlying127 hi hz0 hz1 hz2 rfl (by decide) u6 _ _ rfl t1 ⟨w2.heap.size, 0, none⟩ 1 1 [.slice (some ⟨d, 0, none⟩) (m + 1) cd, .int .i64 (j : Int)] rfl rfl ?_ ?_ ?_ ?_ ?_ ?_
                     exact (two_new _ _ _)
                     exact (fun x hx => by simp at hx; rcases hx with rfl | rfl <;> rfl)
                     unfold maxLen; omega
                     omega
                     simp; omega
                     intro v' w3 hown' hgrow3 hnil3
                     have hbw3 : Below w1.heap.size w1 w3 := Below.grown (bel2.alloc bel2.size _) hgrow3 (by simp; omega) (fun j hj => (HO.out.lt _ hj).1)
                     have Y : Hid (w3.ownsRow w1.heap.size 121 2 v' (L.length + 1) (flatI (m + 1) L ++ [.slice (some ⟨d, 0, none⟩) (m + 1) cd, .int .i64 (j : Int)]) ∧ Below w1.heap.size w1 w3 ∧ (w2.alloc (.cells #[.slice (some ⟨d, 0, none⟩) (m + 1) cd, .int .i64 (j : Int)] 121)).grownBy w3 u6.ownBlock) := ⟨hown', hbw3, hgrow3⟩
                     clear hown' hgrow3 hnil3 hbw3 t1)
        go_roundw
        case rel =>
          have ha : Below w2.heap.size w2 (w2.alloc (.cells #[.slice (some ⟨d, 0, none⟩) (m + 1) cd, .int .i64 (j : Int)] 121)) := (Below.refl _ _).alloc (Nat.le_refl _) _
          refine ⟨j + 1, HJ.out, by first | go_num | (congr 1; omega), L ++ [(d, cd, X, j)], ?_, fun x hx => ?_, ?_, Y.out.2.1⟩
          · rw [flatI_append, List.length_append]
            exact Y.out.1
          · rcases List.mem_append.1 hx with hx | hx
            · exact (((HY.out.2.1 x hx).below hb3).below ha).grown (HO.out.alloc _) Y.out.2.2
            · rw [List.mem_singleton] at hx
              subst hx
              exact ((HY.out.2.2.1.below hb3).below ha).grown (HO.out.alloc _) Y.out.2.2
          · rw [HN.out, List.map_append, HMP.out]; rfl
        case measure => have := HJ.out; simp [intOf]; omega
    · have hjl : j = 2 := by omega
      subst hjl
      rw [show (twoL s A N).take 2 = twoL s A N from rfl] at hmap
      have HE : Hid (wr.ownsRow w1.heap.size 121 2 u6 L.length (flatI (m + 1) L) ∧ (∀ x ∈ L, RowAt wr x.1 x.2.1 x.2.2.1) ∧ L.map (·.2.2) = (twoL s A N).filter (fun q => p q.1)) := ⟨hown, hrows, hmap⟩
      clear hown hrows hmap HPL HRD HLK HS
      go_wp2
      go_ret2
      exact ⟨u6, L, rfl, HE.out.1, HE.out.2.1, HE.out.2.2, hbel⟩
end Go.Proofs.Ytjmbioedpghopaa

namespace Go.Proofs.Ytjmbioedpghopaa
open Go.ChangeShapes Go.WideShapes Go.ChangeAt Go.RowKit

theorem read_dead (w : World) (g : Nat) (s : PS) (F : Nat → Prop) (h : PF w g s F) (hd : s.dead = true) (A : Nat) (hA : A ≤ 5000) (n : Int) :
    Calls Try.prog 45 #[.pointer (some ⟨g, 0, none⟩), .int .i64 (A : Int), .int .i64 n] w fun e w' => e = .returned (.tuple #[.slice none 0 0, .int .i64 5]) ∧ w' = w := by
  obtain ⟨q, cap, cur, h, hF, hq, hl⟩ := h
  have hck := check_ok w g s q cap cur h A n (wf_i64 _ (by omega) (by omega))
  have hc : checkE s A n = 5 := by unfold checkE; rw [hd, if_pos rfl]
  rw [hc, show ((5 : Nat) : Int) = 5 from rfl] at hck
  clear h hl hc hF hq hA
  go_enter Try.func45, Try.ntmps45
  go_wp2_with fail
  refine hck.mono ?_
  rintro e w1 ⟨rfl, rfl⟩
  clear hck
  go_wp2
  go_ret2
  exact ⟨rfl, rfl⟩

set_option maxHeartbeats 3200000 in
set_option maxRecDepth 20000 in
theorem those_dead (f : Value) (w : World) (b g A N : Nat) (s : PS) (F : Nat → Prop) (hP : PF w g s F) (hB : BA w b g A N) (hd : s.dead = true) (hA : A ≤ 4096) (hN : N ≤ 64) :
    Calls Try.prog 71 #[.pointer (some ⟨b, 0, none⟩), f] w fun e w' => e = .returned (.tuple #[.slice none 0 0, .int .i64 5]) ∧ Below w.heap.size w w' := by
  have HS : Hid (∀ W, Below w.heap.size w W → PF W g s F ∧ BA W b g A N) := fun W hb => ⟨pf_kept.below hP hb, hB.below hb⟩
  have hst := bstands_ok w b g A N hB
  have H0 : Hid (Kb w b g N w) := Kb.of hB
  have K1 : Hid (∀ W, Kb w b g N W → Calls Try.prog 78 #[.pointer (some ⟨b, 0, none⟩), .int .i64 0] W fun e w' => e = .returned (.int .i64 (A : Int)) ∧ Below W.heap.size W w') := fun W hb => place_ok W b g A N 0 A (HS.out W hb.2.2).2 hA hN (by omega) (by omega)
  have K2 : Hid (∀ W, Kb w b g N W → Calls Try.prog 45 #[.pointer (some ⟨g, 0, none⟩), .int .i64 (A : Int), .int .i64 ((N : Int) + 8)] W fun e w' => e = .returned (.tuple #[.slice none 0 0, .int .i64 5]) ∧ Below W.heap.size W w' ∧ Below w.heap.size w w') := fun W hb => by
    refine (read_dead W g s F (HS.out W hb.2.2).1 hd A (by omega) _).mono ?_
    rintro e w' ⟨rfl, rfl⟩
    exact ⟨rfl, Below.refl _ _, hb.2.2⟩
  have e1 : IntKind.i64.wrap ((N : Int) + 8) = (N : Int) + 8 := by rw [IntKind.wrap_i64]; omega
  obtain ⟨⟨cb0, cb2⟩, _⟩ := H0.out
  clear hP hB hd HS
  go_enter Try.func71, Try.ntmps71
  go_wp2_with fail
  refine hst.mono ?_
  rintro e w1 ⟨rfl, rfl⟩
  clear hst
  go_wp2
  go_loopw [6, 14] (fun t u wr => t = .slice none 0 0 ∧ u = .int .i64 0 ∧ wr = w1) (fun _ _ _ => 0)
  case atStart => exact ⟨rfl, rfl, rfl⟩
  case round =>
    obtain ⟨rfl, rfl, rfl⟩ := hrel
    go_wp2
    go_region_held3 (fun W => (W.cell? ⟨b, 0, none⟩ = some (.pointer (some ⟨g, 0, none⟩)) ∧ W.cell? ⟨b, 2, none⟩ = some (.int .i64 (N : Int))) ∧ b < wr.heap.size ∧ Below wr.heap.size wr W)
        (first | exact H0.out | assumption | exact H0.out.drew | exact Kb.drew (by assumption) | exact Kb.below (by assumption) (by assumption))
        (first | (go_at_call 78; refine (K1.out _ ?_).mono ?_; (focus (first | exact H0.out | assumption | exact H0.out.drew | exact Kb.drew (by assumption) | exact Kb.below (by assumption) (by assumption))); rintro e w9 ⟨rfl, hb9⟩)
               | (go_at_call 45; refine (K2.out _ ?_).mono ?_; (focus (first | exact H0.out | assumption | exact H0.out.drew | exact Kb.drew (by assumption) | exact Kb.below (by assumption) (by assumption))); rintro e w9 ⟨rfl, hb8, hbr⟩))
    go_wp2
    go_ret2
    exact ⟨rfl, hbr⟩
theorem newest_dead (w : World) (b g A N : Nat) (s : PS) (F : Nat → Prop) (hP : PF w g s F) (hB : BA w b g A N) (hd : s.dead = true) (hA : A ≤ 4096) (hN : N ≤ 64) :
    Calls Try.prog 65 #[.pointer (some ⟨b, 0, none⟩)] w fun e w' => e = .returned (.tuple #[.agg #[.slice none 0 0, .int .i64 0], .bool false, .int .i64 5]) ∧ Below w.heap.size w w' := by
  have hb : Below w.heap.size w (w.alloc (.cells #[.slice none 0 0, .int .i64 0] 121)) := (Below.refl _ _).alloc (Nat.le_refl _) _
  have hs := those_dead (.func (.methodOf 121 "carillon/bank.whole") #[] #[]) _ b g A N s F (pf_kept.below hP hb) (hB.below hb) hd hA hN
  have HC : Hid (Cont (w.alloc (.cells #[.slice none 0 0, .int .i64 0] 121)) w.heap.size (.slice none 0 0) (.int .i64 0)) := Cont.new w (.slice none 0 0) (.int .i64 0)
  clear hP hB hd
  go_enter Try.func65, Try.ntmps65
  go_wp2_with fail
  refine hs.mono ?_
  rintro e w1 ⟨rfl, hb1⟩
  have HC2 : Hid (Cont w1 w.heap.size (.slice none 0 0) (.int .i64 0)) := HC.out.below hb1
  obtain ⟨x0, x1, x2, x3⟩ := HC2.out.facts
  have hb2 := hb.trans (hb1.mono hb.size)
  clear hs HC hb1
  go_wp2
  refine bodyPost_ret (res_cont3 rfl rfl (HC2.out.set _ _)) rfl ?_
  exact ⟨rfl, below_pair hb2 (Nat.le_refl _) _ _⟩
end Go.Proofs.Ytjmbioedpghopaa
