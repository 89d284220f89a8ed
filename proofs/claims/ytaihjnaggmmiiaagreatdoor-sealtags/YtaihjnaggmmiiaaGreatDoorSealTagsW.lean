/-
  The walk of SealTags.
-/
import Derived.Test.YtaihjnaggmmiiaaGreatDoorSealRef
namespace Go.Proofs.YtaihjnaggmmiiaaGreatDoor
open Go.ChangeShapes Go.WideShapes Go.ChangeAt Go.RowKit

set_option maxHeartbeats 6400000 in
set_option maxRecDepth 20000 in
theorem tags_walk (F : Fr) (A : At) (k : Option Addr) (ck : Nat) (key : List UInt8) (w : World) (hT : Tabs w) (hF : Seen w F A) (hn : F.n < 18446744073709551616) (hk : Sees w k ck key) :
    Calls Tryz.prog 3 #[.agg (frC F A), .slice k key.length ck] w fun e w' => e = .returned (.bool true) ∧ Below w.heap.size w w' := by
  have hN := FrAt.new w F A
  have hb0 : Below w.heap.size w (w.alloc (.cells (frC F A) 25)) := Go.Joins.below_alloc1 _ _
  have HP1 : Hid (∀ W, Below w.heap.size w W → Calls Tryz.prog 7 #[.agg (frC F A), .slice k key.length ck] W fun e w' => FTells W w' e (tagR key F) (tagE key F)) := fun W hW => stag_any W F A k ck key (hT.below hW) (hF.below hW) hn (hk.below hW)
  have HP2 : Hid (∀ W, Below w.heap.size w W → Calls Tryz.prog 8 #[.agg (frC F A), .slice k key.length ck] W fun e w' => FTells W w' e (tagR key F) (tagE key F)) := fun W hW => rtag_any W F A k ck key (hF.below hW) hn (hk.below hW)
  have HP3 : Hid (∀ W, Below w.heap.size w W → Calls Tryz.prog 9 #[.agg (frC F A), .slice k key.length ck] W fun e w' => FTells W w' e (sealR key F) (tagE key F)) := fun W hW => seal_any W F A k ck key (hT.below hW) (hF.below hW) hn (hk.below hW)
  have HP4 : Hid (∀ W, Below w.heap.size w W → Calls Tryz.prog 10 #[.agg (frC F A), .slice k key.length ck] W fun e w' => FTells W w' e (sealR key F) (tagE key F)) := fun W hW => rseal_any W F A k ck key (hF.below hW) hn (hk.below hW)
  have HP5 : Hid (∀ W, Below w.heap.size w W → Calls Tryz.prog 11 #[.agg (frC F A), .slice k key.length ck] W fun e w' => e = .returned (.bool (holdsB key F)) ∧ Below W.heap.size W w') := fun W hW => holds_any W F A k ck key (hT.below hW) (hF.below hW) hn (hk.below hW) _ rfl
  have HP6 : Hid (∀ W, Below w.heap.size w W → Calls Tryz.prog 12 #[.agg (frC F A), .slice k key.length ck] W fun e w' => e = .returned (.bool (holdsB key F)) ∧ Below W.heap.size W w') := fun W hW => rholds_any W F A k ck key (hF.below hW) hn (hk.below hW) _ rfl
  have HP7 : Hid (∀ W, Below w.heap.size w W → Calls Tryz.prog 13 #[] W fun e w' => e = .returned (.bool true) ∧ Below W.heap.size W w') := fun W hW => awake_ok W (hT.below hW)
  generalize tagR key F = R at *
  generalize sealR key F = S at *
  generalize tagE key F = E at *
  generalize holdsB key F = B at *
  have H0 : Hid (FrAt (w.alloc (.cells (frC F A) 25)) w.heap.size F A ∧ Below w.heap.size w (w.alloc (.cells (frC F A) 25))) := ⟨hN, hb0⟩
  have HL0 : Hid ((Instr.loadAt 25 (.pointer (some ⟨w.heap.size, 0, none⟩))).run Tryz.prog (w.alloc (.cells (frC F A) 25)) = .ok (.agg (frC F A)) (w.alloc (.cells (frC F A) 25))) := hN.loads
  have hc1 := HP1.out _ hb0
  clear hN hb0 hF hn hk hT
  go_enter Tryz.func3, Tryz.ntmps3
  go_upto_region 1 with fail
  generalize w.alloc (Obj.cells (frC F A) 25) = W0 at *
  go_wp2_with (first | (refine wpList_gload_run rfl 25 _ rfl _ _ rfl HL0.out ?_) | fail)
  refine hc1.mono ?_
  rintro e w2 ⟨d1, c1, rfl, hs1, hb1⟩
  have H2 : Hid (Sees w2 d1 c1 R ∧ FrAt w2 w.heap.size F A ∧ Below w.heap.size w w2) := ⟨hs1, H0.out.1.below hb1, H0.out.2.trans (hb1.mono H0.out.2.size)⟩
  have HL2 : Hid ((Instr.loadAt 25 (.pointer (some ⟨w.heap.size, 0, none⟩))).run Tryz.prog w2 = .ok (.agg (frC F A)) w2) := H2.out.2.1.loads
  have hc2 := HP2.out w2 H2.out.2.2
  clear hc1 hs1 hb1 H0 HL0 HP1 HP2
  go_wp2_with (first | (refine wpList_gload_run rfl 25 _ rfl _ _ rfl HL2.out ?_) | fail)
  refine hc2.mono ?_
  rintro e w3 ⟨d2, c2, rfl, hs2, hb2⟩
  have H3 : Hid (Sees w3 d1 c1 R ∧ Sees w3 d2 c2 R ∧ FrAt w3 w.heap.size F A ∧ Below w.heap.size w w3) := ⟨H2.out.1.below hb2, hs2, H2.out.2.1.below hb2, H2.out.2.2.trans (hb2.mono H2.out.2.2.size)⟩
  have HL3 : Hid ((Instr.loadAt 25 (.pointer (some ⟨w.heap.size, 0, none⟩))).run Tryz.prog w3 = .ok (.agg (frC F A)) w3) := H3.out.2.2.1.loads
  have hc3 := HP3.out w3 H3.out.2.2.2
  clear hc2 hs2 hb2 H2 HL2 HP3
  go_wp2_with (first | (refine wpList_gload_run rfl 25 _ rfl _ _ rfl HL3.out ?_) | fail)
  refine hc3.mono ?_
  rintro e w4 ⟨d3, c3, rfl, hs3, hb3⟩
  have H4 : Hid (Sees w4 d1 c1 R ∧ Sees w4 d2 c2 R ∧ Sees w4 d3 c3 S ∧ FrAt w4 w.heap.size F A ∧ Below w.heap.size w w4) := ⟨H3.out.1.below hb3, H3.out.2.1.below hb3, hs3, H3.out.2.2.1.below hb3, H3.out.2.2.2.trans (hb3.mono H3.out.2.2.2.size)⟩
  have HL4 : Hid ((Instr.loadAt 25 (.pointer (some ⟨w.heap.size, 0, none⟩))).run Tryz.prog w4 = .ok (.agg (frC F A)) w4) := H4.out.2.2.2.1.loads
  have hc4 := HP4.out w4 H4.out.2.2.2.2
  clear hc3 hs3 hb3 H3 HL3 HP4
  go_wp2_with (first | (refine wpList_gload_run rfl 25 _ rfl _ _ rfl HL4.out ?_) | fail)
  refine hc4.mono ?_
  rintro e w5 ⟨d4, c4, rfl, hs4, hb4⟩
  have H5 : Hid (Sees w5 d1 c1 R ∧ Sees w5 d2 c2 R ∧ Sees w5 d3 c3 S ∧ Sees w5 d4 c4 S ∧ FrAt w5 w.heap.size F A ∧ Below w.heap.size w w5) := ⟨H4.out.1.below hb4, H4.out.2.1.below hb4, H4.out.2.2.1.below hb4, hs4, H4.out.2.2.2.1.below hb4, H4.out.2.2.2.2.trans (hb4.mono H4.out.2.2.2.2.size)⟩
  have HCK : Hid (∀ W, Below w5.heap.size w5 W → Calls Tryz.prog 11 #[.agg (frC F A), .slice k key.length ck] W fun e w' => e = .returned (.bool B) ∧ Below W.heap.size W w') := fun W hW => HP5.out W (H5.out.2.2.2.2.2.trans (hW.mono H5.out.2.2.2.2.2.size))
  have HRC : Hid (∀ W, Below w5.heap.size w5 W → Calls Tryz.prog 12 #[.agg (frC F A), .slice k key.length ck] W fun e w' => e = .returned (.bool B) ∧ Below W.heap.size W w') := fun W hW => HP6.out W (H5.out.2.2.2.2.2.trans (hW.mono H5.out.2.2.2.2.2.size))
  have HAW : Hid (∀ W, Below w5.heap.size w5 W → Calls Tryz.prog 13 #[] W fun e w' => e = .returned (.bool true) ∧ Below W.heap.size W w') := fun W hW => HP7.out W (H5.out.2.2.2.2.2.trans (hW.mono H5.out.2.2.2.2.2.size))
  clear hc4 hs4 hb4 H4 HL4 HP5 HP6 HP7
  go_wp2
  refine wp_region_noPanic ?_
  refine wp_region_held (S := fun W => Below w5.heap.size w5 W) (by kernel_rfl) ?_
  have hS := (show (fun W : World => Below w5.heap.size w5 W) w5.drew from (Below.refl _ _).drew)
  refine any_take 0 ?vr5n1 rfl (by kernel_rfl) (by kernel_rfl) (by kernel_rfl) (fun _ _ _ h => h) (by rfl) ?hr5n1 hS ?_
  case hr5n1 => (intro w hSw; (try dsimp only at hSw); go_split_ands; go_simp; (try with_reducible rfl))
  (try simp only [Act.put, List.setIfInBounds_toArray, List.set_cons_zero, List.set_cons_succ])
  refine any_take 1 (.string ⟨R.toArray⟩) rfl (by kernel_rfl) (by kernel_rfl) (by kernel_rfl) (fun _ _ _ h => h) (by rfl) (fun W hW => exec_conv 23 9 (.tmp 37) rfl (.slice d1 R.length c1) _ rfl ((H5.out.1.below hW).convert (P := Tryz.prog) 23 5 9 Tryz.underlying23 Tryz.underlying5 Tryz.underlying9)) hS ?_
  (try simp only [Act.put, List.setIfInBounds_toArray, List.set_cons_zero, List.set_cons_succ])
  refine any_take 2 ?vr5n2 rfl (by kernel_rfl) (by kernel_rfl) (by kernel_rfl) (fun _ _ _ h => h) (by rfl) ?hr5n2 hS ?_
  case hr5n2 => (intro w hSw; (try dsimp only at hSw); go_split_ands; go_simp; (try with_reducible rfl))
  (try simp only [Act.put, List.setIfInBounds_toArray, List.set_cons_zero, List.set_cons_succ])
  refine any_take 3 (.string ⟨R.toArray⟩) rfl (by kernel_rfl) (by kernel_rfl) (by kernel_rfl) (fun _ _ _ h => h) (by rfl) (fun W hW => exec_conv 23 9 (.tmp 39) rfl (.slice d2 R.length c2) _ rfl ((H5.out.2.1.below hW).convert (P := Tryz.prog) 23 5 9 Tryz.underlying23 Tryz.underlying5 Tryz.underlying9)) hS ?_
  (try simp only [Act.put, List.setIfInBounds_toArray, List.set_cons_zero, List.set_cons_succ])
  refine any_take 4 ?vr5n3 rfl (by kernel_rfl) (by kernel_rfl) (by kernel_rfl) (fun _ _ _ h => h) (by rfl) ?hr5n3 hS ?_
  case hr5n3 => (intro w hSw; (try dsimp only at hSw); go_split_ands; go_simp; (try with_reducible rfl))
  (try simp only [Act.put, List.setIfInBounds_toArray, List.set_cons_zero, List.set_cons_succ])
  refine any_take 5 ?vr5n4 rfl (by kernel_rfl) (by kernel_rfl) (by kernel_rfl) (fun _ _ _ h => h) (by rfl) ?hr5n4 hS ?_
  case hr5n4 => (intro w hSw; (try dsimp only at hSw); go_split_ands; go_simp; (try with_reducible rfl))
  (try simp only [Act.put, List.setIfInBounds_toArray, List.set_cons_zero, List.set_cons_succ])
  refine any_take 6 ?vr5n5 rfl (by kernel_rfl) (by kernel_rfl) (by kernel_rfl) (fun _ _ _ h => h) (by rfl) ?hr5n5 hS ?_
  case hr5n5 => (intro w hSw; (try dsimp only at hSw); go_split_ands; go_simp; (try with_reducible rfl))
  (try simp only [Act.put, List.setIfInBounds_toArray, List.set_cons_zero, List.set_cons_succ])
  refine any_take 7 ?vr5n6 rfl (by kernel_rfl) (by kernel_rfl) (by kernel_rfl) (fun _ _ _ h => h) (by rfl) ?hr5n6 hS ?_
  case hr5n6 => (intro w hSw; (try dsimp only at hSw); go_split_ands; go_simp; (try with_reducible rfl))
  (try simp only [Act.put, List.setIfInBounds_toArray, List.set_cons_zero, List.set_cons_succ])
  refine any_take 8 ?vr5n7 rfl (by kernel_rfl) (by kernel_rfl) (by kernel_rfl) (fun _ _ _ h => h) (by rfl) ?hr5n7 hS ?_
  case hr5n7 => (intro w hSw; (try dsimp only at hSw); go_split_ands; go_simp; (try with_reducible rfl))
  (try simp only [Act.put, List.setIfInBounds_toArray, List.set_cons_zero, List.set_cons_succ])
  refine any_take 9 ?vr5n8 rfl (by kernel_rfl) (by kernel_rfl) (by kernel_rfl) (fun _ _ _ h => h) (by rfl) ?hr5n8 hS ?_
  case hr5n8 => (intro w hSw; (try dsimp only at hSw); go_split_ands; go_simp; (try with_reducible rfl))
  (try simp only [Act.put, List.setIfInBounds_toArray, List.set_cons_zero, List.set_cons_succ])
  refine any_take 10 ?vr5n9 rfl (by kernel_rfl) (by kernel_rfl) (by kernel_rfl) (fun _ _ _ h => h) (by rfl) ?hr5n9 hS ?_
  case hr5n9 => (intro w hSw; (try dsimp only at hSw); go_split_ands; go_simp; (try with_reducible rfl))
  (try simp only [Act.put, List.setIfInBounds_toArray, List.set_cons_zero, List.set_cons_succ])
  refine any_take 11 ?vr5n10 rfl (by kernel_rfl) (by kernel_rfl) (by kernel_rfl) (fun _ _ _ h => h) (by rfl) ?hr5n10 hS ?_
  case hr5n10 => (intro w hSw; (try dsimp only at hSw); go_split_ands; go_simp; (try with_reducible rfl))
  (try simp only [Act.put, List.setIfInBounds_toArray, List.set_cons_zero, List.set_cons_succ])
  refine any_take 12 (.string ⟨S.toArray⟩) rfl (by kernel_rfl) (by kernel_rfl) (by kernel_rfl) (fun _ _ _ h => h) (by rfl) (fun W hW => exec_conv 23 9 (.tmp 48) rfl (.slice d3 S.length c3) _ rfl ((H5.out.2.2.1.below hW).convert (P := Tryz.prog) 23 5 9 Tryz.underlying23 Tryz.underlying5 Tryz.underlying9)) hS ?_
  (try simp only [Act.put, List.setIfInBounds_toArray, List.set_cons_zero, List.set_cons_succ])
  refine any_take 13 ?vr5n11 rfl (by kernel_rfl) (by kernel_rfl) (by kernel_rfl) (fun _ _ _ h => h) (by rfl) ?hr5n11 hS ?_
  case hr5n11 => (intro w hSw; (try dsimp only at hSw); go_split_ands; go_simp; (try with_reducible rfl))
  (try simp only [Act.put, List.setIfInBounds_toArray, List.set_cons_zero, List.set_cons_succ])
  refine any_take 14 (.string ⟨S.toArray⟩) rfl (by kernel_rfl) (by kernel_rfl) (by kernel_rfl) (fun _ _ _ h => h) (by rfl) (fun W hW => exec_conv 23 9 (.tmp 50) rfl (.slice d4 S.length c4) _ rfl ((H5.out.2.2.2.1.below hW).convert (P := Tryz.prog) 23 5 9 Tryz.underlying23 Tryz.underlying5 Tryz.underlying9)) hS ?_
  (try simp only [Act.put, List.setIfInBounds_toArray, List.set_cons_zero, List.set_cons_succ])
  refine any_take 15 ?vr5n12 rfl (by kernel_rfl) (by kernel_rfl) (by kernel_rfl) (fun _ _ _ h => h) (by rfl) ?hr5n12 hS ?_
  case hr5n12 => (intro w hSw; (try dsimp only at hSw); go_split_ands; go_simp; (try with_reducible rfl))
  (try simp only [Act.put, List.setIfInBounds_toArray, List.set_cons_zero, List.set_cons_succ])
  refine any_take 16 ?vr5n13 rfl (by kernel_rfl) (by kernel_rfl) (by kernel_rfl) (fun _ _ _ h => h) (by rfl) ?hr5n13 hS ?_
  case hr5n13 => (intro w hSw; (try dsimp only at hSw); go_split_ands; go_simp; (try with_reducible rfl))
  (try simp only [Act.put, List.setIfInBounds_toArray, List.set_cons_zero, List.set_cons_succ])
  refine any_take 17 ?vr5n14 rfl (by kernel_rfl) (by kernel_rfl) (by kernel_rfl) (fun _ _ _ h => h) (by rfl) ?hr5n14 hS ?_
  case hr5n14 => (intro w hSw; (try dsimp only at hSw); go_split_ands; go_simp; (try with_reducible rfl))
  (try simp only [Act.put, List.setIfInBounds_toArray, List.set_cons_zero, List.set_cons_succ])
  refine any_take 18 ?vr5n15 rfl (by kernel_rfl) (by kernel_rfl) (by kernel_rfl) (fun _ _ _ h => h) (by rfl) ?hr5n15 hS ?_
  case hr5n15 => (intro w hSw; (try dsimp only at hSw); go_split_ands; go_simp; (try with_reducible rfl))
  (try simp only [Act.put, List.setIfInBounds_toArray, List.set_cons_zero, List.set_cons_succ])
  refine any_take 19 ?vr5n16 rfl (by kernel_rfl) (by kernel_rfl) (by kernel_rfl) (fun _ _ _ h => h) (by rfl) ?hr5n16 hS ?_
  case hr5n16 => (intro w hSw; (try dsimp only at hSw); go_split_ands; go_simp; (try with_reducible rfl))
  (try simp only [Act.put, List.setIfInBounds_toArray, List.set_cons_zero, List.set_cons_succ])
  refine any_take 20 ?vr5n17 rfl (by kernel_rfl) (by kernel_rfl) (by kernel_rfl) (fun _ _ _ h => h) (by rfl) ?hr5n17 hS ?_
  case hr5n17 => (intro w hSw; (try dsimp only at hSw); go_split_ands; go_simp; (try with_reducible rfl))
  (try simp only [Act.put, List.setIfInBounds_toArray, List.set_cons_zero, List.set_cons_succ])
  refine any_take 21 ?vr5n18 rfl (by kernel_rfl) (by kernel_rfl) (by kernel_rfl) (fun _ _ _ h => h) (by rfl) ?hr5n18 hS ?_
  case hr5n18 => (intro w hSw; (try dsimp only at hSw); go_split_ands; go_simp; (try with_reducible rfl))
  (try simp only [Act.put, List.setIfInBounds_toArray, List.set_cons_zero, List.set_cons_succ])
  refine any_take 22 ?vr5n19 rfl (by kernel_rfl) (by kernel_rfl) (by kernel_rfl) (fun _ _ _ h => h) (by rfl) ?hr5n19 hS ?_
  case hr5n19 => (intro w hSw; (try dsimp only at hSw); go_split_ands; go_simp; (try with_reducible rfl))
  (try simp only [Act.put, List.setIfInBounds_toArray, List.set_cons_zero, List.set_cons_succ])
  refine any_take 23 (.agg (frC F A)) rfl (by kernel_rfl) (by kernel_rfl) (by kernel_rfl) (fun _ _ _ h => h) (by rfl) (fun W hW => exec_load 25 (.tmp 2) rfl (.pointer (some ⟨w.heap.size, 0, none⟩)) _ rfl ((H5.out.2.2.2.2.1.below hW).loads)) hS ?_
  (try simp only [Act.put, List.setIfInBounds_toArray, List.set_cons_zero, List.set_cons_succ])
  refine any_take 24 ?vr5n20 rfl (by kernel_rfl) (by kernel_rfl) (by kernel_rfl) (fun _ _ _ h => h) (by rfl) ?hr5n20 hS ?_
  case hr5n20 => (intro w hSw; (try dsimp only at hSw); go_split_ands; go_simp; (try with_reducible rfl))
  (try simp only [Act.put, List.setIfInBounds_toArray, List.set_cons_zero, List.set_cons_succ])
  refine any_take 26 (.agg (frC F A)) rfl (by kernel_rfl) (by kernel_rfl) (by kernel_rfl) (fun _ _ _ h => h) (by rfl) (fun W hW => exec_load 25 (.tmp 2) rfl (.pointer (some ⟨w.heap.size, 0, none⟩)) _ rfl ((H5.out.2.2.2.2.1.below hW).loads)) hS ?_
  (try simp only [Act.put, List.setIfInBounds_toArray, List.set_cons_zero, List.set_cons_succ])
  refine any_take 27 ?vr5n21 rfl (by kernel_rfl) (by kernel_rfl) (by kernel_rfl) (fun _ _ _ h => h) (by rfl) ?hr5n21 hS ?_
  case hr5n21 => (intro w hSw; (try dsimp only at hSw); go_split_ands; go_simp; (try with_reducible rfl))
  (try simp only [Act.put, List.setIfInBounds_toArray, List.set_cons_zero, List.set_cons_succ])
  refine any_one 25 rfl (by kernel_rfl) (by rfl) (fun K hK => ?_)
  have hSS : Below w5.heap.size w5 _ := hS
  clear hS
  go_simp
  refine (HCK.out _ hSS).mono ?_
  rintro e w6 ⟨rfl, hb6⟩
  have hS6 : Below w5.heap.size w5 w6 := hSS.trans (hb6.mono hSS.size)
  clear hSS hb6
  refine hK.out _ _ (hS6) (fun hS => ?_)
  clear hK
  (try simp only [Act.put, List.setIfInBounds_toArray, List.set_cons_zero, List.set_cons_succ])
  refine any_one 28 rfl (by kernel_rfl) (by rfl) (fun K hK => ?_)
  have hSS : Below w5.heap.size w5 _ := hS
  clear hS
  go_simp
  refine (HRC.out _ hSS).mono ?_
  rintro e w7 ⟨rfl, hb7⟩
  have hS7 : Below w5.heap.size w5 w7 := hSS.trans (hb7.mono hSS.size)
  clear hSS hb7
  refine hK.out _ _ (hS7) (fun hS => ?_)
  clear hK
  (try simp only [Act.put, List.setIfInBounds_toArray, List.set_cons_zero, List.set_cons_succ])
  refine any_take 29 ?vr5n22 rfl (by kernel_rfl) (by kernel_rfl) (by kernel_rfl) (fun _ _ _ h => h) (by rfl) ?hr5n22 hS ?_
  case hr5n22 => (intro w hSw; (try dsimp only at hSw); go_split_ands; go_simp; (try with_reducible rfl))
  (try simp only [Act.put, List.setIfInBounds_toArray, List.set_cons_zero, List.set_cons_succ])
  refine any_take 30 ?vr5n23 rfl (by kernel_rfl) (by kernel_rfl) (by kernel_rfl) (fun _ _ _ h => h) (by rfl) ?hr5n23 hS ?_
  case hr5n23 => (intro w hSw; (try dsimp only at hSw); go_split_ands; go_simp; (try with_reducible rfl))
  (try simp only [Act.put, List.setIfInBounds_toArray, List.set_cons_zero, List.set_cons_succ])
  refine any_take 31 ?vr5n24 rfl (by kernel_rfl) (by kernel_rfl) (by kernel_rfl) (fun _ _ _ h => h) (by rfl) ?hr5n24 hS ?_
  case hr5n24 => (intro w hSw; (try dsimp only at hSw); go_split_ands; go_simp; (try with_reducible rfl))
  (try simp only [Act.put, List.setIfInBounds_toArray, List.set_cons_zero, List.set_cons_succ])
  refine any_one 32 rfl (by kernel_rfl) (by rfl) (fun K hK => ?_)
  have hSS : Below w5.heap.size w5 _ := hS
  clear hS
  go_simp
  refine (HAW.out _ hSS).mono ?_
  rintro e w8 ⟨rfl, hb8⟩
  have hS8 : Below w5.heap.size w5 w8 := hSS.trans (hb8.mono hSS.size)
  clear hSS hb8
  refine hK.out _ _ (hS8) (fun hS => ?_)
  clear hK
  (try simp only [Act.put, List.setIfInBounds_toArray, List.set_cons_zero, List.set_cons_succ])
  refine any_take 33 ?vr5n25 rfl (by kernel_rfl) (by kernel_rfl) (by kernel_rfl) (fun _ _ _ h => h) (by rfl) ?hr5n25 hS ?_
  case hr5n25 => (intro w hSw; (try dsimp only at hSw); go_split_ands; go_simp; (try with_reducible rfl))
  (try simp only [Act.put, List.setIfInBounds_toArray, List.set_cons_zero, List.set_cons_succ])
  refine any_take 34 ?vr5n26 rfl (by kernel_rfl) (by kernel_rfl) (by kernel_rfl) (fun _ _ _ h => h) (by rfl) ?hr5n26 hS ?_
  case hr5n26 => (intro w hSw; (try dsimp only at hSw); go_split_ands; go_simp; (try with_reducible rfl))
  (try simp only [Act.put, List.setIfInBounds_toArray, List.set_cons_zero, List.set_cons_succ])
  refine wpAnyH_done (by kernel_rfl) ?_ _
  refine NoPanic.normal ?_
  have HE : Hid (Below w.heap.size w w8) := H5.out.2.2.2.2.2.trans (hS.mono H5.out.2.2.2.2.2.size)
  clear hS H5 HCK HRC HAW
  go_wp2
  go_ret
  exact ⟨rfl, HE.out⟩
end Go.Proofs.YtaihjnaggmmiiaaGreatDoor
