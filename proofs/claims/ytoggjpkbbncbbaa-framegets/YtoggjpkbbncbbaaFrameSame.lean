/-
  The contracts of Same, of the program and of the document.
-/
import Derived.Test.YtoggjpkbbncbbaaFrameParts
import Derived.Test.YtoggjpkbbncbbaaCrcUp
import Derived.Deep.Cut
namespace Go.Proofs.Ytoggjpkbbncbbaa
open Go.ChangeShapes Go.WideShapes Go.ChangeAt Go.RowKit

def sameB (F G : Fr) : Bool := (F.k == G.k) && (F.f == G.f) && (F.t == G.t) && (F.e == G.e) && (F.s == G.s) && (F.r == G.r) && ((F.n : Int) == (G.n : Int)) && (F.m == G.m) && (F.v == G.v) && (F.i == G.i) && (F.key == G.key) && (F.body == G.body) && (F.tag == G.tag)
theorem sameB_iff (F G : Fr) : sameB F G = true ↔ F = G := by
  unfold sameB
  simp only [Bool.and_eq_true, beq_iff_eq]
  constructor
  · rintro ⟨⟨⟨⟨⟨⟨⟨⟨⟨⟨⟨⟨h0, h1⟩, h2⟩, h3⟩, h4⟩, h5⟩, h6⟩, h7⟩, h8⟩, h9⟩, h10⟩, h11⟩, h12⟩
    exact fr_ext h0 h1 h2 h3 h4 h5 (by omega) h7 h8 h9 h10 h11 h12
  · rintro rfl
    simp
theorem sameB_refl (F : Fr) : sameB F F = true := (sameB_iff F F).2 rfl
theorem sameB_symm (F G : Fr) : sameB F G = sameB G F := by
  rw [Bool.eq_iff_iff, sameB_iff, sameB_iff]; exact eq_comm
/-- Two frames, boxed. -/
theorem two_new (w : World) (F : Fr) (A : At) (G : Fr) (B : At) : FrAt ((w.alloc (.cells (frC F A) 25)).alloc (.cells (frC G B) 25)) w.heap.size F A ∧ FrAt ((w.alloc (.cells (frC F A) 25)).alloc (.cells (frC G B) 25)) (w.heap.size + 1) G B :=
  ⟨(FrAt.new w F A).alloc _, by simpa using FrAt.new (w.alloc (.cells (frC F A) 25)) G B⟩

set_option maxHeartbeats 6400000 in
set_option maxRecDepth 20000 in
theorem same_ok (w : World) (F : Fr) (A : At) (G : Fr) (B : At) (hF : Seen w F A) (hG : Seen w G B) :
    Calls Try.prog 18 #[.agg (frC F A), .agg (frC G B)] w fun e w' => e = .returned (.bool (sameB F G)) ∧ w' = (w.alloc (.cells (frC F A) 25)).alloc (.cells (frC G B) 25) := by
  obtain ⟨hN, hM⟩ := two_new w F A G B
  have p0 := hN.c0
  have q0 := hM.c0
  have p1 := hN.c1
  have q1 := hM.c1
  have p2 := hN.c2
  have q2 := hM.c2
  have p3 := hN.c3
  have q3 := hM.c3
  have p4 := hN.c4
  have q4 := hM.c4
  have p5 := hN.c5
  have q5 := hM.c5
  have p6 := hN.c6
  have q6 := hM.c6
  have p7 := hN.c7
  have q7 := hM.c7
  have p8 := hN.c8
  have q8 := hM.c8
  have p9 := hN.c9
  have q9 := hM.c9
  have p10 := hN.c10
  have q10 := hM.c10
  have p11 := hN.c11
  have q11 := hM.c11
  have p12 := hN.c12
  have q12 := hM.c12
  clear hN hM
  have hb : Below w.heap.size w ((w.alloc (.cells (frC F A) 25)).alloc (.cells (frC G B) 25)) := Go.Joins.below_alloc2 _ _ _
  replace hF := hF.below hb
  replace hG := hG.below hb
  clear hb
  have u1 := equal_ok _ _ _ _ _ _ _ hF.key hG.key
  have u2 := equal_ok _ _ _ _ _ _ _ hF.body hG.body
  have u3 := equal_ok _ _ _ _ _ _ _ hF.tag hG.tag
  clear hF hG
  unfold sameB
  obtain ⟨b0, h0⟩ : ∃ b, (F.k == G.k) = b := ⟨_, rfl⟩
  obtain ⟨b1, h1⟩ : ∃ b, (F.f == G.f) = b := ⟨_, rfl⟩
  obtain ⟨b2, h2⟩ : ∃ b, (F.t == G.t) = b := ⟨_, rfl⟩
  obtain ⟨b3, h3⟩ : ∃ b, (F.e == G.e) = b := ⟨_, rfl⟩
  obtain ⟨b4, h4⟩ : ∃ b, (F.s == G.s) = b := ⟨_, rfl⟩
  obtain ⟨b5, h5⟩ : ∃ b, (F.r == G.r) = b := ⟨_, rfl⟩
  obtain ⟨b6, h6⟩ : ∃ b, ((F.n : Int) == (G.n : Int)) = b := ⟨_, rfl⟩
  obtain ⟨b7, h7⟩ : ∃ b, (F.m == G.m) = b := ⟨_, rfl⟩
  obtain ⟨b8, h8⟩ : ∃ b, (F.v == G.v) = b := ⟨_, rfl⟩
  obtain ⟨b9, h9⟩ : ∃ b, (F.i == G.i) = b := ⟨_, rfl⟩
  rw [h0, h1, h2, h3, h4, h5, h6, h7, h8, h9]
  obtain ⟨b10, h10⟩ : ∃ b, (F.key == G.key) = b := ⟨_, rfl⟩
  rw [h10]
  rw [h10] at u1
  clear h10
  obtain ⟨b11, h11⟩ : ∃ b, (F.body == G.body) = b := ⟨_, rfl⟩
  rw [h11]
  rw [h11] at u2
  clear h11
  obtain ⟨b12, h12⟩ : ∃ b, (F.tag == G.tag) = b := ⟨_, rfl⟩
  rw [h12]
  rw [h12] at u3
  clear h12
  cases b0
  · go_enter Try.func18, Try.ntmps18
    go_upto_region 1 with fail
    simp only [List.append_eq, List.cons_append, List.nil_append]
    go_wp2
    go_ret
    exact ⟨rfl, rfl⟩
  cases b1
  · go_enter Try.func18, Try.ntmps18
    go_upto_region 1 with fail
    simp only [List.append_eq, List.cons_append, List.nil_append]
    go_wp2
    go_ret
    exact ⟨rfl, rfl⟩
  cases b2
  · go_enter Try.func18, Try.ntmps18
    go_upto_region 1 with fail
    simp only [List.append_eq, List.cons_append, List.nil_append]
    go_wp2
    go_ret
    exact ⟨rfl, rfl⟩
  cases b3
  · go_enter Try.func18, Try.ntmps18
    go_upto_region 1 with fail
    simp only [List.append_eq, List.cons_append, List.nil_append]
    go_wp2
    go_ret
    exact ⟨rfl, rfl⟩
  cases b4
  · go_enter Try.func18, Try.ntmps18
    go_upto_region 1 with fail
    simp only [List.append_eq, List.cons_append, List.nil_append]
    go_wp2
    go_ret
    exact ⟨rfl, rfl⟩
  cases b5
  · go_enter Try.func18, Try.ntmps18
    go_upto_region 1 with fail
    simp only [List.append_eq, List.cons_append, List.nil_append]
    go_wp2
    go_ret
    exact ⟨rfl, rfl⟩
  cases b6
  · go_enter Try.func18, Try.ntmps18
    go_upto_region 1 with fail
    simp only [List.append_eq, List.cons_append, List.nil_append]
    go_wp2
    go_ret
    exact ⟨rfl, rfl⟩
  cases b7
  · go_enter Try.func18, Try.ntmps18
    go_upto_region 1 with fail
    simp only [List.append_eq, List.cons_append, List.nil_append]
    go_wp2
    go_ret
    exact ⟨rfl, rfl⟩
  cases b8
  · go_enter Try.func18, Try.ntmps18
    go_upto_region 1 with fail
    simp only [List.append_eq, List.cons_append, List.nil_append]
    go_wp2
    go_ret
    exact ⟨rfl, rfl⟩
  cases b9
  · go_enter Try.func18, Try.ntmps18
    go_upto_region 1 with fail
    simp only [List.append_eq, List.cons_append, List.nil_append]
    go_wp2
    go_ret
    exact ⟨rfl, rfl⟩
  go_enter Try.func18, Try.ntmps18
  go_upto_region 1 with fail
  simp only [List.append_eq, List.cons_append, List.nil_append]
  go_wp2_with fail
  refine u1.mono ?_
  rintro e w1 ⟨rfl, rfl⟩
  clear u1
  cases b10
  · go_wp2
    go_ret
    exact ⟨rfl, rfl⟩
  go_wp2_with fail
  refine u2.mono ?_
  rintro e w1 ⟨rfl, rfl⟩
  clear u2
  cases b11
  · go_wp2
    go_ret
    exact ⟨rfl, rfl⟩
  go_wp2_with fail
  refine u3.mono ?_
  rintro e w1 ⟨rfl, rfl⟩
  clear u3
  go_wp2
  go_ret
  exact ⟨rfl, rfl⟩

set_option maxHeartbeats 6400000 in
set_option maxRecDepth 20000 in
theorem rsame_ok (w : World) (F : Fr) (A : At) (G : Fr) (B : At) (hF : Seen w F A) (hG : Seen w G B) :
    Calls Try.prog 17 #[.agg (frC F A), .agg (frC G B)] w fun e w' => e = .returned (.bool (sameB F G)) ∧ w' = (w.alloc (.cells (frC F A) 25)).alloc (.cells (frC G B) 25) := by
  obtain ⟨hN, hM⟩ := two_new w F A G B
  have p0 := hN.c0
  have q0 := hM.c0
  have p1 := hN.c1
  have q1 := hM.c1
  have p2 := hN.c2
  have q2 := hM.c2
  have p3 := hN.c3
  have q3 := hM.c3
  have p4 := hN.c4
  have q4 := hM.c4
  have p5 := hN.c5
  have q5 := hM.c5
  have p6 := hN.c6
  have q6 := hM.c6
  have p7 := hN.c7
  have q7 := hM.c7
  have p8 := hN.c8
  have q8 := hM.c8
  have p9 := hN.c9
  have q9 := hM.c9
  have p10 := hN.c10
  have q10 := hM.c10
  have p11 := hN.c11
  have q11 := hM.c11
  have p12 := hN.c12
  have q12 := hM.c12
  clear hN hM
  have hb : Below w.heap.size w ((w.alloc (.cells (frC F A) 25)).alloc (.cells (frC G B) 25)) := Go.Joins.below_alloc2 _ _ _
  replace hF := hF.below hb
  replace hG := hG.below hb
  clear hb
  have x1 := hF.key.convert (P := Try.prog) 23 5 9 Try.underlying23 Try.underlying5 Try.underlying9
  have y1 := hG.key.convert (P := Try.prog) 23 5 9 Try.underlying23 Try.underlying5 Try.underlying9
  have x2 := hF.body.convert (P := Try.prog) 23 5 9 Try.underlying23 Try.underlying5 Try.underlying9
  have y2 := hG.body.convert (P := Try.prog) 23 5 9 Try.underlying23 Try.underlying5 Try.underlying9
  have x3 := hF.tag.convert (P := Try.prog) 23 5 9 Try.underlying23 Try.underlying5 Try.underlying9
  have y3 := hG.tag.convert (P := Try.prog) 23 5 9 Try.underlying23 Try.underlying5 Try.underlying9
  clear hF hG
  unfold sameB
  obtain ⟨b0, h0⟩ : ∃ b, (F.k == G.k) = b := ⟨_, rfl⟩
  obtain ⟨b1, h1⟩ : ∃ b, (F.f == G.f) = b := ⟨_, rfl⟩
  obtain ⟨b2, h2⟩ : ∃ b, (F.t == G.t) = b := ⟨_, rfl⟩
  obtain ⟨b3, h3⟩ : ∃ b, (F.e == G.e) = b := ⟨_, rfl⟩
  obtain ⟨b4, h4⟩ : ∃ b, (F.s == G.s) = b := ⟨_, rfl⟩
  obtain ⟨b5, h5⟩ : ∃ b, (F.r == G.r) = b := ⟨_, rfl⟩
  obtain ⟨b6, h6⟩ : ∃ b, ((F.n : Int) == (G.n : Int)) = b := ⟨_, rfl⟩
  obtain ⟨b7, h7⟩ : ∃ b, (F.m == G.m) = b := ⟨_, rfl⟩
  obtain ⟨b8, h8⟩ : ∃ b, (F.v == G.v) = b := ⟨_, rfl⟩
  obtain ⟨b9, h9⟩ : ∃ b, (F.i == G.i) = b := ⟨_, rfl⟩
  rw [h0, h1, h2, h3, h4, h5, h6, h7, h8, h9]
  obtain ⟨b10, h10⟩ : ∃ b, (F.key == G.key) = b := ⟨_, rfl⟩
  rw [h10]
  obtain ⟨b11, h11⟩ : ∃ b, (F.body == G.body) = b := ⟨_, rfl⟩
  rw [h11]
  obtain ⟨b12, h12⟩ : ∃ b, (F.tag == G.tag) = b := ⟨_, rfl⟩
  rw [h12]
  cases b0
  · go_enter Try.func17, Try.ntmps17
    go_upto_region 1 with fail
    simp only [List.append_eq, List.cons_append, List.nil_append]
    go_wp2
    go_ret
    exact ⟨rfl, rfl⟩
  cases b1
  · go_enter Try.func17, Try.ntmps17
    go_upto_region 1 with fail
    simp only [List.append_eq, List.cons_append, List.nil_append]
    go_wp2
    go_ret
    exact ⟨rfl, rfl⟩
  cases b2
  · go_enter Try.func17, Try.ntmps17
    go_upto_region 1 with fail
    simp only [List.append_eq, List.cons_append, List.nil_append]
    go_wp2
    go_ret
    exact ⟨rfl, rfl⟩
  cases b3
  · go_enter Try.func17, Try.ntmps17
    go_upto_region 1 with fail
    simp only [List.append_eq, List.cons_append, List.nil_append]
    go_wp2
    go_ret
    exact ⟨rfl, rfl⟩
  cases b4
  · go_enter Try.func17, Try.ntmps17
    go_upto_region 1 with fail
    simp only [List.append_eq, List.cons_append, List.nil_append]
    go_wp2
    go_ret
    exact ⟨rfl, rfl⟩
  cases b5
  · go_enter Try.func17, Try.ntmps17
    go_upto_region 1 with fail
    simp only [List.append_eq, List.cons_append, List.nil_append]
    go_wp2
    go_ret
    exact ⟨rfl, rfl⟩
  cases b6
  · go_enter Try.func17, Try.ntmps17
    go_upto_region 1 with fail
    simp only [List.append_eq, List.cons_append, List.nil_append]
    go_wp2
    go_ret
    exact ⟨rfl, rfl⟩
  cases b7
  · go_enter Try.func17, Try.ntmps17
    go_upto_region 1 with fail
    simp only [List.append_eq, List.cons_append, List.nil_append]
    go_wp2
    go_ret
    exact ⟨rfl, rfl⟩
  cases b8
  · go_enter Try.func17, Try.ntmps17
    go_upto_region 1 with fail
    simp only [List.append_eq, List.cons_append, List.nil_append]
    go_wp2
    go_ret
    exact ⟨rfl, rfl⟩
  cases b9
  · go_enter Try.func17, Try.ntmps17
    go_upto_region 1 with fail
    simp only [List.append_eq, List.cons_append, List.nil_append]
    go_wp2
    go_ret
    exact ⟨rfl, rfl⟩
  cases b10
  · go_enter Try.func17, Try.ntmps17
    go_upto_region 1 with fail
    simp only [List.append_eq, List.cons_append, List.nil_append]
    go_wp2
    go_ret
    exact ⟨rfl, rfl⟩
  cases b11
  · go_enter Try.func17, Try.ntmps17
    go_upto_region 1 with fail
    simp only [List.append_eq, List.cons_append, List.nil_append]
    go_wp2
    go_ret
    exact ⟨rfl, rfl⟩
  cases b12
  · go_enter Try.func17, Try.ntmps17
    go_upto_region 1 with fail
    simp only [List.append_eq, List.cons_append, List.nil_append]
    go_wp2
    go_ret
    exact ⟨rfl, rfl⟩
  go_enter Try.func17, Try.ntmps17
  go_upto_region 1 with fail
  simp only [List.append_eq, List.cons_append, List.nil_append]
  go_wp2
  go_ret
  exact ⟨rfl, rfl⟩
end Go.Proofs.Ytoggjpkbbncbbaa
