/-
  What a node that nobody made answers: nil, or its zero value.
-/
import Derived.Test.YtahnbljbhfpldaaGreatDoorPeI
import Derived.Test.YtahnbljbhfpldaaGreatDoorPeF
namespace Go.Proofs.YtahnbljbhfpldaaGreatDoor
open Go.ChangeShapes Go.WideShapes Go.ChangeAt Go.RowKit
set_option maxRecDepth 20000

/-- Nobody made it. -/
def NoE (w : World) (p : Value) : Prop := p = .pointer none ∨ ∃ g, p = .pointer (some ⟨g, 0, none⟩) ∧ w.cell? ⟨g, 10, none⟩ = some (.slice none 0 0)
theorem NoE.below {w w' : World} {p : Value} (h : NoE w p) (hb : Below w.heap.size w w') : NoE w' p := by
  rcases h with h | ⟨g, h, hc⟩
  · exact .inl h
  · exact .inr ⟨g, h, by rw [hb.cell (World.block_lt_of_cell? w _ hc)]; exact hc⟩
theorem emade_no (w : World) (p : Value) (h : NoE w p) : Calls Tryz.prog 31 #[p] w fun e w' => e = .returned (.bool false) ∧ w' = w := by
  rcases h with rfl | ⟨g, rfl, hc⟩
  · exact pemade_none w
  · exact pemade_zero w g 0 none hc
theorem peask_zero (w : World) (p : Value) (h : NoE w p) (jj now : Int) : Calls Tryz.prog 11 #[p, .int .i64 jj, .int .i64 now] w fun e w' => e = .returned (.tuple #[.slice none 0 0, .int .i64 7]) ∧ w' = w := by
  have KM := emade_no w p h
  clear h
  go_enter Tryz.func11, Tryz.ntmps11
  go_wp2_with fail
  refine KM.mono ?_
  rintro e w1 ⟨rfl, hw1⟩
  rw [hw1]
  clear hw1 w1 KM
  go_wp2
  go_ret2
  exact ⟨rfl, rfl⟩
theorem pereply_zero (w : World) (p : Value) (h : NoE w p) (F : Fr) (A : At) (m ep st ix : Int) (k : Option Addr) (n ck : Nat) : Calls Tryz.prog 15 #[p, .agg (frC F A), .int .i64 m, .int .i64 ep, .int .i64 st, .int .i64 ix, .slice k n ck] w fun e w' => e = .returned (.tuple #[.slice none 0 0, .int .i64 7]) ∧ Below w.heap.size w w' := by
  have hb0 : Below w.heap.size w (w.alloc (.cells (frC F A) 40)) := Go.Joins.below_alloc1 _ _
  have KM := emade_no _ p (h.below hb0)
  have H0 : Hid (Below w.heap.size w (w.alloc (.cells (frC F A) 40))) := hb0
  clear h hb0
  go_enter Tryz.func15, Tryz.ntmps15
  go_wp2_with fail
  refine KM.mono ?_
  rintro e w1 ⟨rfl, hw1⟩
  rw [hw1]
  clear hw1 w1 KM
  go_wp2
  go_ret2
  exact ⟨rfl, H0.out⟩
theorem peopen_zero (w : World) (p : Value) (h : NoE w p) (x : Option Addr) (n cx : Nat) : Calls Tryz.prog 13 #[p, .slice x n cx] w fun e w' => Got w w' e Fr.zero 7 := by
  have h0 : FrAt (w.alloc (.cells (frC Fr.zero At.zero) 40)) w.heap.size Fr.zero At.zero := FrAt.new w _ _
  have hb0 : Below w.heap.size w (w.alloc (.cells (frC Fr.zero At.zero) 40)) := Go.Joins.below_alloc1 _ _
  have KM := emade_no _ p (h.below hb0)
  obtain ⟨W1, hW1⟩ : ∃ W1, W1 = w.alloc (.cells (frC Fr.zero At.zero) 40) := ⟨_, rfl⟩
  rw [← hW1] at h0 hb0
  obtain ⟨W, hst, hW, hs, hbW⟩ := got_stored (w := w) h0 hb0 Fr.zero At.zero (Seen.zero _)
  rw [hW1] at hst
  have HB : Hid ((Instr.build 40 #[]).run Tryz.prog (w.alloc (.cells (frC Fr.zero At.zero) 40)) = .ok (.agg (frC Fr.zero At.zero)) (w.alloc (.cells (frC Fr.zero At.zero) 40))) := build_zero _
  have HST : Hid ((Instr.storeAt 40 (.pointer (some ⟨w.heap.size, 0, none⟩)) (.agg (frC Fr.zero At.zero))).run Tryz.prog (w.alloc (.cells (frC Fr.zero At.zero) 40)) = .ok () W) := hst
  have HE : Hid (FrAt W w.heap.size Fr.zero At.zero ∧ Seen W Fr.zero At.zero ∧ Below w.heap.size w W) := ⟨hW, hs, hbW⟩
  clear h h0 hb0 hst hW hs hbW hW1
  go_enter Tryz.func13, Tryz.ntmps13
  go_wp2_with fail
  refine KM.mono ?_
  rintro e w1 ⟨rfl, hw1⟩
  rw [hw1]
  clear hw1 w1 KM
  go_wp2_with (first | (refine wpList_build_run rfl 40 _ rfl [] _ rfl HB.out ?_) | (refine wpList_store_run rfl 40 _ _ rfl _ _ rfl rfl HST.out ?_) | fail)
  refine bodyPost_ret (res_fr_tmp rfl rfl HE.out.1) rfl ?_
  exact ⟨At.zero, rfl, HE.out.2⟩
theorem pehear_zero (w : World) (p : Value) (h : NoE w p) (F : Fr) (A : At) (now : Int) : Calls Tryz.prog 18 #[p, .agg (frC F A), .int .i64 now] w fun e w' => HeardN w w' e An.zero 7 := by
  obtain ⟨W, hW⟩ : ∃ W, W = (w.alloc (.cells (frC F A) 40)).alloc (.cells (anC An.zero none 0) 51) := ⟨_, rfl⟩
  have hb0 : Below w.heap.size w W := by rw [hW]; exact (Go.Joins.below_alloc1 _ _).alloc (by simp) _
  have han : PnAt W (w.heap.size + 1) An.zero none 0 := by
    rw [hW]
    simpa using PnAt.new (w.alloc (.cells (frC F A) 40)) An.zero none 0
  have KM := emade_no W p (h.below hb0)
  obtain ⟨X, hst, hX, hs, aX⟩ := pn_stored han An.zero none 0 (Sees.nil' _)
  have HB : Hid ((Instr.build 51 #[]).run Tryz.prog W = .ok (.agg (anC An.zero none 0)) W) := pnbuild0 _
  have HST : Hid ((Instr.storeAt 51 (.pointer (some ⟨w.heap.size + 1, 0, none⟩)) (.agg (anC An.zero none 0))).run Tryz.prog W = .ok () X) := hst
  have HE : Hid (PnAt X (w.heap.size + 1) An.zero none 0 ∧ Sees X none 0 An.zero.key ∧ Below w.heap.size w X) := ⟨hX, hs, aX.below hb0 (fun k hk => by omega) hb0.size⟩
  have HW : Hid ((w.alloc (.cells (frC F A) 40)).alloc (.cells (anC An.zero none 0) 51) = W) := hW.symm
  clear h hb0 han hst hX hs aX hW
  go_enter Tryz.func18, Tryz.ntmps18
  go_upto_region 1 with fail
  rw [show ((w.alloc (.cells (frC F A) 40)).alloc (.cells #[Value.int IntKind.i64 0, Value.int IntKind.i64 0, Value.int IntKind.i64 0, Value.int IntKind.i64 0, Value.int IntKind.i64 0, Value.int IntKind.i64 0, Value.slice none 0 0] 51)) = W from HW.out]
  go_wp2_with fail
  refine KM.mono ?_
  rintro e w1 ⟨rfl, hw1⟩
  rw [hw1]
  clear hw1 w1 KM
  go_wp2_with (first | (refine wpList_build_run rfl 51 _ rfl [] _ rfl HB.out ?_) | (refine wpList_store_run rfl 51 _ _ rfl _ _ rfl rfl HST.out ?_) | fail)
  refine bodyPost_ret (res_pn_tmp rfl rfl HE.out.1) rfl ?_
  exact ⟨none, 0, rfl, HE.out.2⟩
theorem pn_laid {W : World} {x : An} {a : Option Addr} {c : Nat} (hs : Sees W a c x.key) : ∃ W', (Instr.storeAt 51 (.pointer (some ⟨W.heap.size, 0, none⟩)) (.agg (anC x a c))).run Tryz.prog (W.alloc (.cells (anC An.zero none 0) 51)) = .ok () W' ∧ PnAt W' W.heap.size x a c ∧ Sees W' a c x.key ∧ Below W.heap.size W W' := by
  have hb : Below W.heap.size W (W.alloc (.cells (anC An.zero none 0) 51)) := Go.Joins.below_alloc1 _ _
  obtain ⟨X, hst, hX, hs', aX⟩ := pn_stored (PnAt.new W An.zero none 0) x a c (hs.below hb)
  exact ⟨X, hst, hX, hs', aX.below hb (fun k hk => by omega) hb.size⟩
end Go.Proofs.YtahnbljbhfpldaaGreatDoor
