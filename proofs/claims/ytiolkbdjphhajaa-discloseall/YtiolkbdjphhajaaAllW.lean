/-
  The walk of DiscloseAll.
-/
import Derived.Test.YtiolkbdjphhajaaDisE
import Derived.Test.YtiolkbdjphhajaaDisS
namespace Go.Proofs.Ytiolkbdjphhajaa
open Go.ChangeShapes Go.WideShapes Go.ChangeAt Go.RowKit

/-- What Known may answer: one pair. -/
def Pair (c : Cf) (sl st now n f : Int) : Prop := (knB c sl st now = false ∧ n = 0 ∧ f = 1) ∨ (knB c sl st now = true ∧ f = 0 ∧ Kn c sl st now n)
theorem Pair.one {c : Cf} {sl st now n f m g : Int} (h : Pair c sl st now n f) (h' : Pair c sl st now m g) : m = n ∧ g = f := by
  rcases h with ⟨a, rfl, rfl⟩ | ⟨a, rfl, k⟩ <;> rcases h' with ⟨a', rfl, rfl⟩ | ⟨a', rfl, k'⟩
  · exact ⟨rfl, rfl⟩
  · rw [a] at a'; cases a'
  · rw [a] at a'; cases a'
  · exact ⟨k'.one (place_ok' (kn_in a).1).1 k, rfl⟩
theorem idx_pair (c : Cf) (st r : Int) : ∃ a e, idxV c st r = .tuple #[.int .i64 a, .int .i64 e] := by
  rcases idx_cases c st r with ⟨h, h'⟩ | h | h
  · exact ⟨_, _, idx_yes h h'⟩
  · exact ⟨_, _, h⟩
  · exact ⟨_, _, h⟩
theorem tol_pair (c : Cf) (st r : Int) : ∃ a e, tolV c st r = .tuple #[.int .i64 a, .int .i64 e] := by
  unfold tolV
  split
  · split
    · exact ⟨_, _, rfl⟩
    · exact ⟨_, _, rfl⟩
  · exact ⟨_, _, rfl⟩
theorem wh_pair (c : Cf) (sl st r : Int) : ∃ a e, whV c sl st r = .tuple #[.int .i64 a, .int .i64 e] := by
  unfold whV
  split
  · exact ⟨_, _, rfl⟩
  · exact ⟨_, _, rfl⟩

set_option maxHeartbeats 6400000 in
set_option maxRecDepth 20000 in
theorem all_walk (c : Cf) (sl st r now : Int) (w : World) : Calls Try.prog 3 #[.agg (cfC c), .int .i64 sl, .int .i64 st, .int .i64 r, .int .i64 now] w fun e w' => e = .returned (.bool true) ∧ Below w.heap.size w w' := by
  have H0 : Hid (Cfg w w.heap.size c (w.alloc (.cells (cfC c) 23))) := Cfg.new w c
  obtain ⟨a, e0, hi⟩ := idx_pair c st r
  obtain ⟨x, g0, ht⟩ := tol_pair c st r
  obtain ⟨p, i0, hw⟩ := wh_pair c sl st r
  have K7 : Hid (∀ W, Calls Try.prog 7 #[.agg (cfC c), .int .i64 st, .int .i64 r] W fun e w' => e = .returned (.tuple #[.int .i64 a, .int .i64 e0]) ∧ Below W.heap.size W w') := fun W => by rw [← hi]; exact index_ok W c st r
  have K8 : Hid (∀ W, Calls Try.prog 8 #[.agg (cfC c), .int .i64 st, .int .i64 r] W fun e w' => e = .returned (.tuple #[.int .i64 a, .int .i64 e0]) ∧ Below W.heap.size W w') := fun W => by rw [← hi]; exact rindex_ok W c st r
  have K9 : Hid (∀ W, Calls Try.prog 9 #[.agg (cfC c), .int .i64 st, .int .i64 r] W fun e w' => e = .returned (.tuple #[.int .i64 x, .int .i64 g0]) ∧ Below W.heap.size W w') := fun W => by rw [← ht]; exact told_ok W c st r
  have K10 : Hid (∀ W, Calls Try.prog 10 #[.agg (cfC c), .int .i64 st, .int .i64 r] W fun e w' => e = .returned (.tuple #[.int .i64 x, .int .i64 g0]) ∧ Below W.heap.size W w') := fun W => by rw [← ht]; exact rtold_ok W c st r
  have K11 : Hid (∀ W, Calls Try.prog 11 #[.agg (cfC c), .int .i64 sl, .int .i64 st, .int .i64 r] W fun e w' => e = .returned (.tuple #[.int .i64 p, .int .i64 i0]) ∧ Below W.heap.size W w') := fun W => by rw [← hw]; exact when_ok W c sl st r
  have K12 : Hid (∀ W, Calls Try.prog 12 #[.agg (cfC c), .int .i64 sl, .int .i64 st, .int .i64 r] W fun e w' => e = .returned (.tuple #[.int .i64 p, .int .i64 i0]) ∧ Below W.heap.size W w') := fun W => by rw [← hw]; exact rwhen_ok W c sl st r
  have K13 : Hid (∀ W, Calls Try.prog 13 #[.agg (cfC c), .int .i64 sl, .int .i64 st, .int .i64 now] W fun e w' => ∃ n f, e = .returned (.tuple #[.int .i64 n, .int .i64 f]) ∧ Pair c sl st now n f ∧ Below W.heap.size W w') := fun W =>
    (known_ok W c sl st now).mono fun e w' h => by
      obtain ⟨⟨h1, h2⟩ | ⟨h1, n, h2, h3⟩, hb⟩ := h
      · exact ⟨0, 1, h2, .inl ⟨h1, rfl, rfl⟩, hb⟩
      · exact ⟨n, 0, h2, .inr ⟨h1, rfl, h3⟩, hb⟩
  have K14 : Hid (∀ W, Calls Try.prog 14 #[.agg (cfC c), .int .i64 sl, .int .i64 st, .int .i64 now] W fun e w' => ∃ n f, e = .returned (.tuple #[.int .i64 n, .int .i64 f]) ∧ Pair c sl st now n f ∧ Below W.heap.size W w') := fun W =>
    (rknown_ok W c sl st now).mono fun e w' h => by
      obtain ⟨⟨h1, h2⟩ | ⟨h1, n, h2, h3⟩, hb⟩ := h
      · exact ⟨0, 1, h2, .inl ⟨h1, rfl, rfl⟩, hb⟩
      · exact ⟨n, 0, h2, .inr ⟨h1, rfl, h3⟩, hb⟩
  have K15 : Hid (∀ W, Calls Try.prog 15 #[.agg (cfC c), .int .i64 sl, .int .i64 st, .int .i64 r, .int .i64 now] W fun e w' => e = .returned (.int .i64 (rsecN c sl st r now)) ∧ Below W.heap.size W w') := fun W => secret_ok W c sl st r now
  have K16 : Hid (∀ W, Calls Try.prog 16 #[.agg (cfC c), .int .i64 sl, .int .i64 st, .int .i64 r, .int .i64 now] W fun e w' => e = .returned (.int .i64 (rsecN c sl st r now)) ∧ Below W.heap.size W w') := fun W => rsecret_ok W c sl st r now
  have K17 : Hid (∀ W, Calls Try.prog 17 #[.agg (cfC c), .int .i64 st, .int .i64 r] W fun e w' => e = .returned (.bool (ovB c st r)) ∧ Below W.heap.size W w') := fun W => over_ok W c st r
  have K18 : Hid (∀ W, Calls Try.prog 18 #[.agg (cfC c), .int .i64 st, .int .i64 r] W fun e w' => e = .returned (.bool (ovB c st r)) ∧ Below W.heap.size W w') := fun W => rover_ok W c st r
  have K19 : Hid (∀ W, Calls Try.prog 19 #[] W fun e w' => e = .returned (.bool true) ∧ Below W.heap.size W w') := fun W => awake_ok W
  generalize rsecN c sl st r now = G at *
  generalize ovB c st r = O at *
  clear hi ht hw
  go_enter Try.func3, Try.ntmps3
  obtain ⟨p0, p1, p2, p3, p4, p5, p6, p7, p8, p9⟩ := H0.out.held.1
  go_wp2_with fail
  refine (K7.out _).mono ?_
  rintro e w1 ⟨rfl, hb⟩
  have H1 : Hid (Cfg w w.heap.size c w1) := H0.out.step hb
  clear K7 H0 hb p0 p1 p2 p3 p4 p5 p6 p7 p8 p9 
  obtain ⟨p0, p1, p2, p3, p4, p5, p6, p7, p8, p9⟩ := H1.out.held.1
  go_wp2_with fail
  refine (K8.out _).mono ?_
  rintro e w2 ⟨rfl, hb⟩
  have H2 : Hid (Cfg w w.heap.size c w2) := H1.out.step hb
  clear K8 H1 hb p0 p1 p2 p3 p4 p5 p6 p7 p8 p9 
  obtain ⟨p0, p1, p2, p3, p4, p5, p6, p7, p8, p9⟩ := H2.out.held.1
  go_wp2_with fail
  refine (K9.out _).mono ?_
  rintro e w3 ⟨rfl, hb⟩
  have H3 : Hid (Cfg w w.heap.size c w3) := H2.out.step hb
  clear K9 H2 hb p0 p1 p2 p3 p4 p5 p6 p7 p8 p9 
  obtain ⟨p0, p1, p2, p3, p4, p5, p6, p7, p8, p9⟩ := H3.out.held.1
  go_wp2_with fail
  refine (K10.out _).mono ?_
  rintro e w4 ⟨rfl, hb⟩
  have H4 : Hid (Cfg w w.heap.size c w4) := H3.out.step hb
  clear K10 H3 hb p0 p1 p2 p3 p4 p5 p6 p7 p8 p9 
  obtain ⟨p0, p1, p2, p3, p4, p5, p6, p7, p8, p9⟩ := H4.out.held.1
  go_wp2_with fail
  refine (K11.out _).mono ?_
  rintro e w5 ⟨rfl, hb⟩
  have H5 : Hid (Cfg w w.heap.size c w5) := H4.out.step hb
  clear K11 H4 hb p0 p1 p2 p3 p4 p5 p6 p7 p8 p9 
  obtain ⟨p0, p1, p2, p3, p4, p5, p6, p7, p8, p9⟩ := H5.out.held.1
  go_wp2_with fail
  refine (K12.out _).mono ?_
  rintro e w6 ⟨rfl, hb⟩
  have H6 : Hid (Cfg w w.heap.size c w6) := H5.out.step hb
  clear K12 H5 hb p0 p1 p2 p3 p4 p5 p6 p7 p8 p9 
  obtain ⟨p0, p1, p2, p3, p4, p5, p6, p7, p8, p9⟩ := H6.out.held.1
  go_wp2_with fail
  refine (K13.out _).mono ?_
  rintro e w7 ⟨s, k, rfl, hp1, hb⟩
  have H7 : Hid (Cfg w w.heap.size c w7) := H6.out.step hb
  clear K13 H6 hb p0 p1 p2 p3 p4 p5 p6 p7 p8 p9 
  obtain ⟨p0, p1, p2, p3, p4, p5, p6, p7, p8, p9⟩ := H7.out.held.1
  go_wp2_with fail
  refine (K14.out _).mono ?_
  rintro e w8 ⟨s2, k2, rfl, hp2, hb⟩
  have H8 : Hid (Cfg w w.heap.size c w8) := H7.out.step hb
  clear K14 H7 hb p0 p1 p2 p3 p4 p5 p6 p7 p8 p9 
  obtain ⟨hs2, hk2⟩ := hp1.one hp2
  rw [hs2, hk2]
  clear hp1 hp2 hs2 hk2 s2 k2
  go_upto_region 11 with fail
  generalize hg : w.heap.size = g at *
  have HG : Hid (w.heap.size = g) := hg
  clear hg
  go_region_held3 (fun V => (V.cell? ⟨g, 0, none⟩ = some (.int .i64 c.n) ∧ V.cell? ⟨g, 1, none⟩ = some (.int .i64 c.f) ∧ V.cell? ⟨g, 2, none⟩ = some (.int .i64 c.s) ∧ V.cell? ⟨g, 3, none⟩ = some (.int .i64 c.d) ∧ V.cell? ⟨g, 4, none⟩ = some (.int .i64 c.k) ∧ V.cell? ⟨g, 5, none⟩ = some (.int .i64 c.e) ∧ V.cell? ⟨g, 6, none⟩ = some (.int .i64 c.v) ∧ V.cell? ⟨g, 7, none⟩ = some (.int .i64 c.r) ∧ V.cell? ⟨g, 8, none⟩ = some (.int .i64 c.l) ∧ V.cell? ⟨g, 9, none⟩ = some (.int .i64 c.p)) ∧ Cfg w g c V)
    (first | exact H8.out.held | assumption | exact (Cfg.drew (And.right (by assumption))).held | exact H8.out.drew.held)
    (first | (go_at_call 15; refine (K15.out _).mono ?_; rintro e w2 ⟨rfl, hb⟩; replace hb := (Cfg.step (And.right (by assumption)) hb).held)
           | (go_at_call 16; refine (K16.out _).mono ?_; rintro e w2 ⟨rfl, hb⟩; replace hb := (Cfg.step (And.right (by assumption)) hb).held)
           | (go_at_call 17; refine (K17.out _).mono ?_; rintro e w2 ⟨rfl, hb⟩; replace hb := (Cfg.step (And.right (by assumption)) hb).held)
           | (go_at_call 18; refine (K18.out _).mono ?_; rintro e w2 ⟨rfl, hb⟩; replace hb := (Cfg.step (And.right (by assumption)) hb).held)
           | (go_at_call 19; refine (K19.out _).mono ?_; rintro e w2 ⟨rfl, hb⟩; replace hb := (Cfg.step (And.right (by assumption)) hb).held))
  all_goals
    rename_i hh
    have H9 : Hid (Cfg w g c _) := hh.2
    clear hh H8
    go_wp2
    go_ret
    exact ⟨by first | rfl | (simp; done), HG.out ▸ H9.out.bel⟩
end Go.Proofs.Ytiolkbdjphhajaa
