/-
  The contract of count: one more in a round.
-/
import Derived.Test.YtmionehafekokaaGrdC
namespace Go.Proofs.Ytmionehafekokaa
open Go.ChangeShapes Go.WideShapes Go.ChangeAt Go.RowKit

/-- What count leaves. -/
def Counted (w : World) (g m : Nat) (s : Value) (v : Gs) (x : Int) (n : Nat) (w' : World) : Prop :=
  ∃ s' rs', Gd w' g m s' { v with os := v.os ++ [x] } rs' (n + 1) ∧ (∀ k, s'.ownBlock = some k → s.ownBlock = some k ∨ w.heap.size ≤ k) ∧ Apart (Own g m s) w w'
/-- The last step of it: the map's. -/
theorem Gd.counts {w : World} {g m : Nat} {s : Value} {v : Gs} {rs : List Int} {n : Nat} {x : Int} (hA : GA w g v m s) (hM : MapAt w m n v.os) (hR : RsAt w s rs) (hT : Ties rs (v.os ++ [x])) (hl : rs.length ≤ n + 1) (hn : n ≤ 1000) (hx0 : 0 ≤ x) (hx1 : x < 1048576) (hc : v.os.count x ≤ 100) :
    ∃ w', (Instr.mapUpdate 52 (.map (some m)) (.int .i64 x) (.int .i64 ((v.os.count x : Int) + 1))).run Try.prog w = .ok () w' ∧ Gd w' g m s { v with os := v.os ++ [x] } rs (n + 1) ∧ Apart (fun k => k = m) w w' := by
  have hm : (1000 : Nat) < maxLen := by decide
  obtain ⟨w', hrun, h1, h2, _⟩ := hM.put (by omega) (inI_wf (x := x) (by omega) (by omega)) (inI_wf (by omega) (by omega))
  have hgm : g ≠ m := by
    rintro rfl
    obtain ⟨es, clock, h3⟩ := hM.isMap
    unfold GA at hA
    rw [h3] at hA; cases hA
  refine ⟨w', hrun, ⟨hA.keep (h2.block g hA.lt hgm), h1, hR.apart h2 fun k hk e => ?_, hT, hl⟩, h2⟩
  subst e
  obtain ⟨cur, h3⟩ := hR.isRow hk
  obtain ⟨es, clock, h4⟩ := hM.isMap
  rw [h3] at h4; cases h4

set_option maxHeartbeats 1600000 in
set_option maxRecDepth 20000 in
theorem count_again (w : World) (g m : Nat) (s : Value) (v : Gs) (rs : List Int) (n : Nat) (h : Gd w g m s v rs n) (hn : n ≤ 1000) (x : Int) (hx0 : 0 ≤ x) (hx1 : x < 1048576) (hc : v.os.count x ≤ 100) (hne : v.os.count x ≠ 0) :
    Calls Try.prog 24 #[.pointer (some ⟨g, 0, none⟩), .int .i64 x] w fun e w' => e = .returned (.tuple #[]) ∧ Counted w g m s v x n w' := by
  have hlook := h.map.look (inI_wf (x := x) (by omega) (by omega))
  have hmem : x ∈ v.os := by
    apply Classical.byContradiction
    intro e
    exact hne (List.count_eq_zero.2 e)
  obtain ⟨w', hrun, h1, h2⟩ := Gd.counts h.at' h.map h.row (h.tie.again hmem) (Nat.le_succ_of_le h.len) hn hx0 hx1 hc
  have HE : Hid (Counted w g m s v x n w') := ⟨s, rs, h1, fun k hk => .inl hk, h2.mono fun k e => .inr (.inl e)⟩
  have c13 := h.at'.others
  obtain ⟨C, hC⟩ : ∃ C : Int, C = (v.os.count x : Int) := ⟨_, rfl⟩
  rw [← hC] at hlook hrun
  have HR : Hid ((Instr.mapUpdate 52 (.map (some m)) (.int .i64 x) (.int .i64 (C + 1))).run Try.prog w = .ok () w') := hrun
  have C0 : (C == 0) = false := by simp; omega
  have C1 : IntKind.i64.wrap (C + 1) = C + 1 := wrap_in (by omega) (by omega)
  clear h hmem hrun h1 h2 hC hne hc hn
  go_enter Try.func24, Try.ntmps24
  go_wp2_with (at_mapUpdate; refine wpList_mapUpdate_run rfl 52 _ _ _ rfl _ _ _ rfl rfl rfl HR.out ?_)
  go_end0
  exact ⟨rfl, HE.out⟩

/-- A new round, put in at its place: what Insert leaves, stored. -/
theorem Gd.inserted {w W w2 : World} {g m : Nat} {s s' : Value} {v : Gs} {rs q : List Int} {n : Nat} {x : Int} (h : Gd w g m s v rs n) (hW : Below w.heap.size w W) (hr : RsAt w2 s' q) (ha : Apart (fun b => s.ownBlock = some b) W w2) (hs : ∀ b, s'.ownBlock = some b → s.ownBlock = some b ∨ W.heap.size ≤ b)
    (hT : Ties q (v.os ++ [x])) (hl : q.length ≤ n + 1) (hn : n ≤ 1000) (hx0 : 0 ≤ x) (hx1 : x < 1048576) (hc : v.os.count x = 0) :
    w2.cell? ⟨g, 14, none⟩ = some s ∧ w2.frozen? ⟨g, 14, none⟩ = false ∧ (w2.setCell ⟨g, 14, none⟩ s').cell? ⟨g, 13, none⟩ = some (.map (some m)) ∧ (Instr.lookup 52 (.map (some m)) (.int .i64 x) false).run Try.prog (w2.setCell ⟨g, 14, none⟩ s') = .ok (.int .i64 0) (w2.setCell ⟨g, 14, none⟩ s') ∧
      ∃ w', (Instr.mapUpdate 52 (.map (some m)) (.int .i64 x) (.int .i64 1)).run Try.prog (w2.setCell ⟨g, 14, none⟩ s') = .ok () w' ∧ Counted w g m s v x n w' := by
  have hg := h.at'.lt
  have hmlt := h.map.lt
  have hA1 : GA W g v m s := h.at'.keep (hW.block g hg)
  have hA2 : GA w2 g v m s := hA1.keep (ha.block g (Nat.lt_of_lt_of_le hg hW.size) h.sg)
  have hM2 : MapAt w2 m n v.os := (h.map.keep (hW.block m hmlt)).keep (ha.block m (Nat.lt_of_lt_of_le hmlt hW.size) h.sm)
  have hA3 : GA (w2.setCell ⟨g, 14, none⟩ s') g v m s' := hA2.put 14 _ rfl
  have hM3 : MapAt (w2.setCell ⟨g, 14, none⟩ s') m n v.os := hM2.keep (heap_setCell_other _ _ _ _ (fun e => h.gm e.symm))
  have hR3 : RsAt (w2.setCell ⟨g, 14, none⟩ s') s' q := hr.keep fun k hk => heap_setCell_other _ _ _ _ (fun e => by
    subst e
    rcases hs _ hk with h1 | h1
    · exact h.sg h1
    · have := hW.size; omega)
  have hlook := hM3.look (inI_wf (x := x) (by omega) (by omega))
  obtain ⟨w', hrun, h1, h2⟩ := Gd.counts hA3 hM3 hR3 hT hl hn hx0 hx1 (by omega)
  rw [hc] at hlook hrun
  refine ⟨hA2.rounds, hA2.fz 14, hA3.others, hlook, w', hrun, s', q, h1, fun k hk => ?_, ?_⟩
  · rcases hs k hk with h3 | h3
    · exact .inl h3
    · exact .inr (Nat.le_trans hW.size h3)
  · have a1 : Apart (Own g m s) w w2 := (Apart.of_below (F := Own g m s) hW).trans ha fun i hi => .inl (.inr (.inr hi))
    exact (a1.setCell (.inl (.inl rfl)) 14 s').trans h2 fun i hi => .inl (.inr (.inl hi))

set_option maxHeartbeats 1600000 in
set_option maxRecDepth 20000 in
theorem count_new (w : World) (g m : Nat) (s : Value) (v : Gs) (rs : List Int) (n : Nat) (h : Gd w g m s v rs n) (hn : n ≤ 999) (x : Int) (hx0 : 0 ≤ x) (hx1 : x < 1048576) (hc : v.os.count x = 0) :
    Calls Try.prog 24 #[.pointer (some ⟨g, 0, none⟩), .int .i64 x] w fun e w' => e = .returned (.tuple #[]) ∧ Counted w g m s v x n w' := by
  have hlook := h.map.look (inI_wf (x := x) (by omega) (by omega))
  rw [hc] at hlook
  have hno : x ∉ v.os := List.count_eq_zero.1 hc
  have HG : Hid (Gd w g m s v rs n) := h
  have c13 := h.at'.others
  have c14 := h.at'.rounds
  have hfall := h.tie.falls
  have hlen := h.len
  obtain ⟨a, cap, es, hcap, hmax, _, hcell⟩ := h.row.shape
  have hcm : cap ≤ 9223372036854775807 := by unfold maxLen at hmax; omega
  have HI : Hid (∀ (k : Nat), k ≤ rs.length → (∀ y ∈ rs.drop k, y < x) → (∀ y ∈ rs.take k, x ≤ y) → Ties (rs.take k ++ x :: rs.drop k) (v.os ++ [x]) ∧ (rs.take k ++ x :: rs.drop k).length ≤ n + 1) := fun k hk h1 h2 =>
    ⟨h.tie.put hno h1 h2, by simp; omega⟩
  have HCl : Hid (∀ (i : Nat) (z : Int), rs[i]? = some z → ∃ q, a = some ⟨q, 0, none⟩ ∧ w.cell? ⟨q, i, none⟩ = some (.int .i64 z)) := hcell
  have HES : Hid (s = .slice a rs.length cap) := es
  have HF : Hid (rs.Pairwise (fun a b => b < a)) := hfall
  have HR : Hid (RsAt w s rs) := h.row
  rw [es] at c14
  have HKI : Hid (∀ k : Nat, k ≤ rs.length → Calls Try.prog 33 #[.slice a rs.length cap, .int .i64 (k : Int), .slice (some ⟨w.heap.size, 0, none⟩) 1 1] (w.alloc (.cells #[.int .i64 x] 3)) fun e w' => Ins (w.alloc (.cells #[.int .i64 x] 3)) s rs k x e w') := fun k hk => by
    have hb := Go.Joins.below_alloc1 w (.cells #[.int .i64 x] 3)
    have := insert_ok (w.alloc (.cells #[.int .i64 x] 3)) s rs (h.row.keep fun k hk => hb.block k (h.row.lt hk)) (by omega) k hk x w.heap.size _ 3 (heap_alloc_new w _) (cell_of_row _ _ 0 _ _ _ (heap_alloc_new w _)) (fun e => by have := h.row.lt e; omega)
    rw [es] at this ⊢; exact this
  clear h hcell es hfall hmax hno
  go_enter Try.func24, Try.ntmps24
  go_wp2
  go_loopw [4] (fun u wr => ∃ (k : Nat) (z : Int), u = .int .i64 z ∧ z = (k : Int) ∧ k ≤ rs.length ∧ (∀ y ∈ rs.drop k, y < x) ∧ w = wr) (fun u _ => (intOf u).toNat)
  case atStart => exact ⟨rs.length, _, rfl, rfl, Nat.le_refl _, by simp, rfl⟩
  case round =>
    obtain ⟨k, z, rfl, hz, hk, hlow, rfl⟩ := hrel
    have HL : Hid (∀ y ∈ rs.drop k, y < x) := hlow
    clear hlow
    rcases k with _ | j
    · obtain rfl : z = 0 := hz
      have KI := HKI.out 0 hk
      rw [show ((0 : Nat) : Int) = 0 by omega] at KI
      have HT := HI.out 0 hk HL.out (fun u hu => by simp at hu)
      clear HCl HF HKI HI
      go_wp2_with fail
      refine KI.mono ?_
      clear KI c13 c14 hlook
      rintro e w2 ⟨s', rfl, hr, ha, hs⟩
      obtain ⟨a2, L, cap2, rfl⟩ : ∃ a2 L cap2, s' = .slice a2 L cap2 := by obtain ⟨p1, p2, p3, _⟩ := hr.shape; exact ⟨_, _, _, p3⟩
      obtain ⟨d14, f14, d13, hl2, w', hrun, hE⟩ := HG.out.inserted (Go.Joins.below_alloc1 _ _) hr ha hs HT.1 HT.2 (by omega) hx0 hx1 hc
      have HR2 : Hid ((Instr.mapUpdate 52 (.map (some m)) (.int .i64 x) (.int .i64 1)).run Try.prog (w2.setCell ⟨g, 14, none⟩ (.slice a2 L cap2)) = .ok () w') := hrun
      have HE : Hid (Counted w g m s v x n w') := hE
      clear hr ha hs hrun hE HT HG HR
      go_wp2_with (at_mapUpdate; refine wpList_mapUpdate_run rfl 52 _ _ _ rfl _ _ _ rfl rfl rfl HR2.out ?_)
      go_end0
      exact ⟨rfl, HE.out⟩
    · obtain rfl : z = (j : Int) + 1 := by omega
      clear hz
      obtain ⟨y, hy⟩ : ∃ y, rs[j]? = some y := ⟨rs[j], by simp⟩
      obtain ⟨b, rfl, cy⟩ := HCl.out j y hy
      have j0 : (0 : Int) ≤ (j : Int) := Int.natCast_nonneg _
      have j1 : (j : Int) < (rs.length : Int) := by omega
      have j2 : IntKind.i64.wrap (j : Int) = (j : Int) := wrap_in (by omega) (by omega)
      have j3 : (0 : Int) < (j : Int) + 1 := by omega
      by_cases hyx : y < x
      · have HL2 : Hid (∀ y ∈ rs.drop j, y < x) := fun u hu => by
          rw [List.drop_eq_getElem_cons (by omega)] at hu
          rcases List.mem_cons.1 hu with e | e
          · have := (List.getElem?_eq_some_iff.1 hy).2; omega
          · exact HL.out u e
        clear hy
        go_wp2
        go_roundw
        case rel => exact ⟨j, _, rfl, rfl, by omega, HL2.out, trivial⟩
        case measure => simp [intOf]
      · have HH : Hid (∀ u ∈ rs.take (j + 1), x ≤ u) := falls_high HF.out hy hyx
        clear hy
        have KI := HKI.out (j + 1) hk
        rw [show (((j + 1) : Nat) : Int) = (j : Int) + 1 by omega] at KI
        have HT := HI.out (j + 1) hk HL.out HH.out
        clear HCl HF HKI HI
        go_wp2_with fail
        refine KI.mono ?_
        clear KI c13 c14 hlook
        rintro e w2 ⟨s', rfl, hr, ha, hs⟩
        obtain ⟨a2, L, cap2, rfl⟩ : ∃ a2 L cap2, s' = .slice a2 L cap2 := by obtain ⟨p1, p2, p3, _⟩ := hr.shape; exact ⟨_, _, _, p3⟩
        obtain ⟨d14, f14, d13, hl2, w', hrun, hE⟩ := HG.out.inserted (Go.Joins.below_alloc1 _ _) hr ha hs HT.1 HT.2 (by omega) hx0 hx1 hc
        have HR2 : Hid ((Instr.mapUpdate 52 (.map (some m)) (.int .i64 x) (.int .i64 1)).run Try.prog (w2.setCell ⟨g, 14, none⟩ (.slice a2 L cap2)) = .ok () w') := hrun
        have HE : Hid (Counted w g m s v x n w') := hE
        clear hr ha hs hrun hE HT HG HR
        go_wp2_with (at_mapUpdate; refine wpList_mapUpdate_run rfl 52 _ _ _ rfl _ _ _ rfl rfl rfl HR2.out ?_)
        go_end0
        exact ⟨rfl, HE.out⟩

theorem count_ok (w : World) (g m : Nat) (s : Value) (v : Gs) (rs : List Int) (n : Nat) (h : Gd w g m s v rs n) (hn : n ≤ 999) (x : Int) (hx0 : 0 ≤ x) (hx1 : x < 1048576) (hc : v.os.count x ≤ 100) :
    Calls Try.prog 24 #[.pointer (some ⟨g, 0, none⟩), .int .i64 x] w fun e w' => e = .returned (.tuple #[]) ∧ Counted w g m s v x n w' := by
  by_cases e : v.os.count x = 0
  · exact count_new w g m s v rs n h hn x hx0 hx1 e
  · exact count_again w g m s v rs n h (by omega) x hx0 hx1 hc e
end Go.Proofs.Ytmionehafekokaa
