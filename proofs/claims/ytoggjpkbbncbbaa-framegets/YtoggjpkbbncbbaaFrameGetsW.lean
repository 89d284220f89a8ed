/-
  The walk of FrameGets.
-/
import Derived.Test.YtoggjpkbbncbbaaFrameBackW
import Derived.Test.YtoggjpkbbncbbaaFrameRGet
namespace Go.Proofs.Ytoggjpkbbncbbaa
open Go.ChangeShapes Go.WideShapes Go.ChangeAt Go.RowKit

theorem rsame_any (w : World) (F : Fr) (A : At) (G : Fr) (B : At) (hF : Seen w F A) (hG : Seen w G B) (b : Bool) (hb : sameB F G = b) : Calls Try.prog 17 #[.agg (frC F A), .agg (frC G B)] w fun e w' => e = .returned (.bool b) ∧ Below w.heap.size w w' := by
  refine (rsame_ok w F A G B hF hG).mono ?_
  rintro e w' ⟨he, hw⟩
  rw [hb] at he
  exact ⟨he, by rw [hw]; exact Go.Joins.below_alloc2 _ _ _⟩

set_option maxHeartbeats 6400000 in
set_option maxRecDepth 20000 in
theorem gets_walk (x : Option Addr) (cx : Nat) (l : List UInt8) (G : Fr) (A : At) (w : World) (hx : Sees w x cx l) (hl : cx ≤ 140737488351232) (hG : Seen w G A) :
    Calls Try.prog 4 #[.slice x l.length cx, .agg (frC G A)] w fun e w' => e = .returned (.bool true) ∧ Below w.heap.size w w' := by
  have hlen : l.length ≤ 140737488351232 := Nat.le_trans hx.fits hl
  have hN := FrAt.new w G A
  have hb0 : Below w.heap.size w (w.alloc (.cells (frC G A) 25)) := Go.Joins.below_alloc1 _ _
  have HP2 : Hid (∀ W, Below w.heap.size w W → Calls Try.prog 16 #[.slice x l.length cx] W fun e w' => Got W w' e (getF l) (getE l : Nat)) := fun W hW => rget_any2 W x cx l (hx.below hW) hlen
  have hc1 := get_any (w.alloc (.cells (frC G A) 25)) x cx l (hx.below hb0) hlen
  have H0 : Hid (FrAt (w.alloc (.cells (frC G A) 25)) w.heap.size G A ∧ Below w.heap.size w (w.alloc (.cells (frC G A) 25))) := ⟨hN, hb0⟩
  have HG : Hid (Seen w G A) := hG
  generalize getF l = R at *
  generalize getE l = E at *
  obtain ⟨N, hNl⟩ : ∃ N, N = l.length := ⟨_, rfl⟩
  rw [← hNl] at HP2 hc1 ⊢
  clear hN hb0 hx hl hG hlen hNl
  go_enter Try.func4, Try.ntmps4
  go_upto_region 1 with fail
  generalize w.alloc (Obj.cells (frC G A) 25) = W0 at *
  go_wp2_with fail
  refine hc1.mono ?_
  rintro e w2 ⟨A1, rfl, hs1, hb1⟩
  obtain ⟨w3, hst3, hf3, hsn3, hbb3⟩ := fr_laid hs1
  have HST3 : Hid ((Instr.storeAt 25 (.pointer (some ⟨w2.heap.size, 0, none⟩)) (.agg (frC R A1))).run Try.prog (w2.alloc (.cells (frC Fr.zero At.zero) 25)) = .ok () w3) := hst3
  have hb3 : Below W0.heap.size W0 w3 := hb1.trans (hbb3.mono hb1.size)
  have H3 : Hid (FrAt w3 w2.heap.size R A1 ∧ FrAt w3 w.heap.size G A ∧ Seen w3 R A1 ∧ Below w.heap.size w w3) := ⟨hf3, H0.out.1.below hb3, hsn3, H0.out.2.trans (hb3.mono H0.out.2.size)⟩
  have hc2 := HP2.out w3 H3.out.2.2.2
  clear hc1 hs1 hb1 hst3 hf3 hsn3 hbb3 hb3 H0 HP2
  go_wp2_with (first | (refine wpList_store_run rfl 25 _ _ rfl _ _ rfl rfl HST3.out ?_) | fail)
  refine hc2.mono ?_
  rintro e w4 ⟨A2, rfl, hs2, hb2⟩
  obtain ⟨w5, hst5, hf5, hsn5, hbb5⟩ := fr_laid hs2
  have HST5 : Hid ((Instr.storeAt 25 (.pointer (some ⟨w4.heap.size, 0, none⟩)) (.agg (frC R A2))).run Try.prog (w4.alloc (.cells (frC Fr.zero At.zero) 25)) = .ok () w5) := hst5
  have hb5 : Below w3.heap.size w3 w5 := hb2.trans (hbb5.mono hb2.size)
  have hb5w : Below w.heap.size w w5 := H3.out.2.2.2.trans (hb5.mono H3.out.2.2.2.size)
  have H5 : Hid (FrAt w5 w2.heap.size R A1 ∧ FrAt w5 w4.heap.size R A2 ∧ FrAt w5 w.heap.size G A ∧ Seen w5 R A1 ∧ Seen w5 R A2 ∧ Seen w5 G A ∧ Below w.heap.size w w5) :=
    ⟨H3.out.1.below hb5, hf5, H3.out.2.1.below hb5, H3.out.2.2.1.below hb5, hsn5, HG.out.below hb5w, hb5w⟩
  obtain ⟨sg, hsg⟩ : ∃ sg, sameB R G = sg := ⟨_, rfl⟩
  have HC1 : Hid (∀ W, Below w5.heap.size w5 W → Calls Try.prog 17 #[.agg (frC R A1), .agg (frC R A2)] W fun e w' => e = .returned (.bool true) ∧ Below W.heap.size W w') := fun W hW => rsame_any W R A1 R A2 (H5.out.2.2.2.1.below hW) (H5.out.2.2.2.2.1.below hW) true (sameB_refl R)
  have HC2 : Hid (∀ W, Below w5.heap.size w5 W → Calls Try.prog 18 #[.agg (frC R A1), .agg (frC G A)] W fun e w' => e = .returned (.bool sg) ∧ Below W.heap.size W w') := fun W hW => same_any W R A1 G A (H5.out.2.2.2.1.below hW) (H5.out.2.2.2.2.2.1.below hW) sg hsg
  have HC3 : Hid (∀ W, Below w5.heap.size w5 W → Calls Try.prog 17 #[.agg (frC R A2), .agg (frC G A)] W fun e w' => e = .returned (.bool sg) ∧ Below W.heap.size W w') := fun W hW => rsame_any W R A2 G A (H5.out.2.2.2.2.1.below hW) (H5.out.2.2.2.2.2.1.below hW) sg hsg
  have HC4 : Hid (∀ W, Below w5.heap.size w5 W → Calls Try.prog 18 #[.agg (frC G A), .agg (frC G A)] W fun e w' => e = .returned (.bool true) ∧ Below W.heap.size W w') := fun W hW => same_any W G A G A (H5.out.2.2.2.2.2.1.below hW) (H5.out.2.2.2.2.2.1.below hW) true (sameB_refl G)
  clear hc2 hs2 hb2 hst5 hf5 hsn5 hbb5 hb5 hb5w H3 HG hsg HST3
  go_upto_region 3 with (first | (refine wpList_store_run rfl 25 _ _ rfl _ _ rfl rfl HST5.out ?_) | fail)
  clear HST5
  generalize w2.heap.size = v1 at *
  generalize w4.heap.size = v2 at *
  refine wp_region_noPanic ?_
  refine wp_region_held (S := fun W => Below w5.heap.size w5 W) (by kernel_rfl) ?_
  have hS := (show (fun W : World => Below w5.heap.size w5 W) w5.drew from (Below.refl _ _).drew)
  refine any_take 0 (.agg (frC R A1)) rfl (by kernel_rfl) (by kernel_rfl) (by kernel_rfl) (fun _ _ _ h => h) (by rfl) (fun W hW => exec_load 25 (.tmp 5) rfl (.pointer (some ⟨v1, 0, none⟩)) _ rfl ((H5.out.1.below hW).loads)) hS ?_
  (try simp only [Act.put, List.setIfInBounds_toArray, List.set_cons_zero, List.set_cons_succ])
  refine any_take 1 (.agg (frC R A2)) rfl (by kernel_rfl) (by kernel_rfl) (by kernel_rfl) (fun _ _ _ h => h) (by rfl) (fun W hW => exec_load 25 (.tmp 7) rfl (.pointer (some ⟨v2, 0, none⟩)) _ rfl ((H5.out.2.1.below hW).loads)) hS ?_
  (try simp only [Act.put, List.setIfInBounds_toArray, List.set_cons_zero, List.set_cons_succ])
  refine any_one 2 rfl (by kernel_rfl) (by rfl) (fun K hK => ?_)
  have hSS : Below w5.heap.size w5 _ := hS
  clear hS
  go_simp
  refine (HC1.out _ hSS).mono ?_
  rintro e u1 ⟨rfl, hb1⟩
  have hS1 : Below w5.heap.size w5 u1 := hSS.trans (hb1.mono hSS.size)
  clear hSS hb1
  refine hK.out _ _ (hS1) (fun hS => ?_)
  clear hK
  (try simp only [Act.put, List.setIfInBounds_toArray, List.set_cons_zero, List.set_cons_succ])
  refine any_take 3 ?vr3n1 rfl (by kernel_rfl) (by kernel_rfl) (by kernel_rfl) (fun _ _ _ h => h) (by rfl) ?hr3n1 hS ?_
  case hr3n1 => (intro w hSw; (try dsimp only at hSw); go_split_ands; go_simp; (try with_reducible rfl))
  (try simp only [Act.put, List.setIfInBounds_toArray, List.set_cons_zero, List.set_cons_succ])
  refine any_take 4 ?vr3n2 rfl (by kernel_rfl) (by kernel_rfl) (by kernel_rfl) (fun _ _ _ h => h) (by rfl) ?hr3n2 hS ?_
  case hr3n2 => (intro w hSw; (try dsimp only at hSw); go_split_ands; go_simp; (try with_reducible rfl))
  (try simp only [Act.put, List.setIfInBounds_toArray, List.set_cons_zero, List.set_cons_succ])
  refine any_take 5 ?vr3n3 rfl (by kernel_rfl) (by kernel_rfl) (by kernel_rfl) (fun _ _ _ h => h) (by rfl) ?hr3n3 hS ?_
  case hr3n3 => (intro w hSw; (try dsimp only at hSw); go_split_ands; go_simp; (try with_reducible rfl))
  (try simp only [Act.put, List.setIfInBounds_toArray, List.set_cons_zero, List.set_cons_succ])
  refine any_take 6 ?vr3n4 rfl (by kernel_rfl) (by kernel_rfl) (by kernel_rfl) (fun _ _ _ h => h) (by rfl) ?hr3n4 hS ?_
  case hr3n4 => (intro w hSw; (try dsimp only at hSw); go_split_ands; go_simp; (try with_reducible rfl))
  (try simp only [Act.put, List.setIfInBounds_toArray, List.set_cons_zero, List.set_cons_succ])
  refine any_take 7 ?vr3n5 rfl (by kernel_rfl) (by kernel_rfl) (by kernel_rfl) (fun _ _ _ h => h) (by rfl) ?hr3n5 hS ?_
  case hr3n5 => (intro w hSw; (try dsimp only at hSw); go_split_ands; go_simp; (try with_reducible rfl))
  (try simp only [Act.put, List.setIfInBounds_toArray, List.set_cons_zero, List.set_cons_succ])
  refine any_take 8 ?vr3n6 rfl (by kernel_rfl) (by kernel_rfl) (by kernel_rfl) (fun _ _ _ h => h) (by rfl) ?hr3n6 hS ?_
  case hr3n6 => (intro w hSw; (try dsimp only at hSw); go_split_ands; go_simp; (try with_reducible rfl))
  (try simp only [Act.put, List.setIfInBounds_toArray, List.set_cons_zero, List.set_cons_succ])
  refine any_take 9 (.agg (frC R A1)) rfl (by kernel_rfl) (by kernel_rfl) (by kernel_rfl) (fun _ _ _ h => h) (by rfl) (fun W hW => exec_load 25 (.tmp 5) rfl (.pointer (some ⟨v1, 0, none⟩)) _ rfl ((H5.out.1.below hW).loads)) hS ?_
  (try simp only [Act.put, List.setIfInBounds_toArray, List.set_cons_zero, List.set_cons_succ])
  refine any_take 10 (.agg (frC G A)) rfl (by kernel_rfl) (by kernel_rfl) (by kernel_rfl) (fun _ _ _ h => h) (by rfl) (fun W hW => exec_load 25 (.tmp 3) rfl (.pointer (some ⟨w.heap.size, 0, none⟩)) _ rfl ((H5.out.2.2.1.below hW).loads)) hS ?_
  (try simp only [Act.put, List.setIfInBounds_toArray, List.set_cons_zero, List.set_cons_succ])
  refine any_take 12 (.agg (frC R A2)) rfl (by kernel_rfl) (by kernel_rfl) (by kernel_rfl) (fun _ _ _ h => h) (by rfl) (fun W hW => exec_load 25 (.tmp 7) rfl (.pointer (some ⟨v2, 0, none⟩)) _ rfl ((H5.out.2.1.below hW).loads)) hS ?_
  (try simp only [Act.put, List.setIfInBounds_toArray, List.set_cons_zero, List.set_cons_succ])
  refine any_take 13 (.agg (frC G A)) rfl (by kernel_rfl) (by kernel_rfl) (by kernel_rfl) (fun _ _ _ h => h) (by rfl) (fun W hW => exec_load 25 (.tmp 3) rfl (.pointer (some ⟨w.heap.size, 0, none⟩)) _ rfl ((H5.out.2.2.1.below hW).loads)) hS ?_
  (try simp only [Act.put, List.setIfInBounds_toArray, List.set_cons_zero, List.set_cons_succ])
  refine any_one 11 rfl (by kernel_rfl) (by rfl) (fun K hK => ?_)
  have hSS : Below w5.heap.size w5 _ := hS
  clear hS
  go_simp
  refine (HC2.out _ hSS).mono ?_
  rintro e u2 ⟨rfl, hb2⟩
  have hS2 : Below w5.heap.size w5 u2 := hSS.trans (hb2.mono hSS.size)
  clear hSS hb2
  refine hK.out _ _ (hS2) (fun hS => ?_)
  clear hK
  (try simp only [Act.put, List.setIfInBounds_toArray, List.set_cons_zero, List.set_cons_succ])
  refine any_one 14 rfl (by kernel_rfl) (by rfl) (fun K hK => ?_)
  have hSS : Below w5.heap.size w5 _ := hS
  clear hS
  go_simp
  refine (HC3.out _ hSS).mono ?_
  rintro e u3 ⟨rfl, hb3⟩
  have hS3 : Below w5.heap.size w5 u3 := hSS.trans (hb3.mono hSS.size)
  clear hSS hb3
  refine hK.out _ _ (hS3) (fun hS => ?_)
  clear hK
  (try simp only [Act.put, List.setIfInBounds_toArray, List.set_cons_zero, List.set_cons_succ])
  refine any_take 15 ?vr3n7 rfl (by kernel_rfl) (by kernel_rfl) (by kernel_rfl) (fun _ _ _ h => h) (by rfl) ?hr3n7 hS ?_
  case hr3n7 => (intro w hSw; (try dsimp only at hSw); go_split_ands; go_simp; (try with_reducible rfl))
  (try simp only [Act.put, List.setIfInBounds_toArray, List.set_cons_zero, List.set_cons_succ])
  refine any_take 16 ?vr3n8 rfl (by kernel_rfl) (by kernel_rfl) (by kernel_rfl) (fun _ _ _ h => h) (by rfl) ?hr3n8 hS ?_
  case hr3n8 => (intro w hSw; (try dsimp only at hSw); go_split_ands; go_simp; (try with_reducible rfl))
  (try simp only [Act.put, List.setIfInBounds_toArray, List.set_cons_zero, List.set_cons_succ])
  refine any_take 17 ?vr3n9 rfl (by kernel_rfl) (by kernel_rfl) (by kernel_rfl) (fun _ _ _ h => h) (by rfl) ?hr3n9 hS ?_
  case hr3n9 => (intro w hSw; (try dsimp only at hSw); go_split_ands; go_simp; (try with_reducible rfl))
  (try simp only [Act.put, List.setIfInBounds_toArray, List.set_cons_zero, List.set_cons_succ])
  refine any_take 18 (.agg (frC G A)) rfl (by kernel_rfl) (by kernel_rfl) (by kernel_rfl) (fun _ _ _ h => h) (by rfl) (fun W hW => exec_load 25 (.tmp 3) rfl (.pointer (some ⟨w.heap.size, 0, none⟩)) _ rfl ((H5.out.2.2.1.below hW).loads)) hS ?_
  (try simp only [Act.put, List.setIfInBounds_toArray, List.set_cons_zero, List.set_cons_succ])
  refine any_take 19 (.agg (frC G A)) rfl (by kernel_rfl) (by kernel_rfl) (by kernel_rfl) (fun _ _ _ h => h) (by rfl) (fun W hW => exec_load 25 (.tmp 3) rfl (.pointer (some ⟨w.heap.size, 0, none⟩)) _ rfl ((H5.out.2.2.1.below hW).loads)) hS ?_
  (try simp only [Act.put, List.setIfInBounds_toArray, List.set_cons_zero, List.set_cons_succ])
  refine any_one 20 rfl (by kernel_rfl) (by rfl) (fun K hK => ?_)
  have hSS : Below w5.heap.size w5 _ := hS
  clear hS
  go_simp
  refine (HC4.out _ hSS).mono ?_
  rintro e u4 ⟨rfl, hb4⟩
  have hS4 : Below w5.heap.size w5 u4 := hSS.trans (hb4.mono hSS.size)
  clear hSS hb4
  refine hK.out _ _ (hS4) (fun hS => ?_)
  clear hK
  (try simp only [Act.put, List.setIfInBounds_toArray, List.set_cons_zero, List.set_cons_succ])
  refine any_take 21 ?vr3n10 rfl (by kernel_rfl) (by kernel_rfl) (by kernel_rfl) (fun _ _ _ h => h) (by rfl) ?hr3n10 hS ?_
  case hr3n10 => (intro w hSw; (try dsimp only at hSw); go_split_ands; go_simp; (try with_reducible rfl))
  (try simp only [Act.put, List.setIfInBounds_toArray, List.set_cons_zero, List.set_cons_succ])
  refine any_take 22 ?vr3n11 rfl (by kernel_rfl) (by kernel_rfl) (by kernel_rfl) (fun _ _ _ h => h) (by rfl) ?hr3n11 hS ?_
  case hr3n11 => (intro w hSw; (try dsimp only at hSw); go_split_ands; go_simp; (try with_reducible rfl))
  (try simp only [Act.put, List.setIfInBounds_toArray, List.set_cons_zero, List.set_cons_succ])
  refine any_one 23 rfl (by kernel_rfl) (by rfl) (fun K hK => ?_)
  have hSS : Below w5.heap.size w5 _ := hS
  clear hS
  go_simp
  refine (awake_ok _).mono ?_
  rintro e w8 ⟨rfl, hb8⟩
  have hS8 : Below w5.heap.size w5 w8 := hSS.trans (hb8.mono hSS.size)
  clear hSS hb8
  refine hK.out _ _ (hS8) (fun hS => ?_)
  clear hK
  (try simp only [Act.put, List.setIfInBounds_toArray, List.set_cons_zero, List.set_cons_succ])
  refine any_take 24 ?vr3n12 rfl (by kernel_rfl) (by kernel_rfl) (by kernel_rfl) (fun _ _ _ h => h) (by rfl) ?hr3n12 hS ?_
  case hr3n12 => (intro w hSw; (try dsimp only at hSw); go_split_ands; go_simp; (try with_reducible rfl))
  (try simp only [Act.put, List.setIfInBounds_toArray, List.set_cons_zero, List.set_cons_succ])
  refine any_take 25 ?vr3n13 rfl (by kernel_rfl) (by kernel_rfl) (by kernel_rfl) (fun _ _ _ h => h) (by rfl) ?hr3n13 hS ?_
  case hr3n13 => (intro w hSw; (try dsimp only at hSw); go_split_ands; go_simp; (try with_reducible rfl))
  (try simp only [Act.put, List.setIfInBounds_toArray, List.set_cons_zero, List.set_cons_succ])
  refine wpAnyH_done (by kernel_rfl) ?_ _
  refine NoPanic.normal ?_
  have HE : Hid (Below w.heap.size w w8) := H5.out.2.2.2.2.2.2.trans (hS.mono H5.out.2.2.2.2.2.2.size)
  clear hS H5 HC1 HC2 HC3 HC4
  go_wp2
  go_ret
  exact ⟨rfl, HE.out⟩
end Go.Proofs.Ytoggjpkbbncbbaa
