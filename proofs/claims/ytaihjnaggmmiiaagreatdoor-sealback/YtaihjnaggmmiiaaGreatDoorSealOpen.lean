/-
  The contracts of seal.opened and Open.
-/
import Derived.Test.YtaihjnaggmmiiaaGreatDoorSealPut
import Derived.Test.YtaihjnaggmmiiaaGreatDoorFrameBackW
namespace Go.Proofs.YtaihjnaggmmiiaaGreatDoor
open Go.ChangeShapes Go.WideShapes Go.ChangeAt Go.RowKit

/-- What Open answers. -/
def openE (l key : List UInt8) : Nat := if getE l = 0 then (if holdsB key (getF l) = true then 0 else 13) else getE l
def openF (l key : List UInt8) : Fr := if openE l key = 0 then getF l else Fr.zero
theorem getE_le (l : List UInt8) : getE l ≤ 13 := by
  unfold getE
  split
  · decide
  · split
    · decide
    · split <;> decide
theorem getF_n (l : List UInt8) : (getF l).n < 18446744073709551616 := by
  by_cases h : getE l = 0
  · exact (put_get l h).2.2
  · rw [getF_bad h]; decide
theorem openE_le (l key : List UInt8) : openE l key ≤ 13 := by
  unfold openE
  split
  · split <;> decide
  · exact getE_le l
theorem openF_n (l key : List UInt8) : (openF l key).n < 18446744073709551616 := by
  unfold openF
  split
  · exact getF_n l
  · decide

/-- A frame, and a refusal or none. -/
def OpIs (w w' : World) (e : Ending) (F : Fr) (v : Value) : Prop := ∃ A, e = .returned (.tuple #[.agg (frC F A), v]) ∧ Seen w' F A ∧ Below w.heap.size w w'
/-- A refusal of a number, none of 0. -/
def RefIs (n : Nat) (v : Value) : Prop := (n = 0 ∧ v = .nilIface) ∨ (n ≠ 0 ∧ ∃ s, v = refV s (n : Int))

set_option maxHeartbeats 1600000 in
set_option maxRecDepth 20000 in
theorem opened_bytes (w : World) (x : Option Addr) (cx : Nat) (l : List UInt8) (k : Option Addr) (ck : Nat) (key : List UInt8) (hx : Sees w x cx l) (hl : l.length ≤ 140737488351232) (hE : ¬ getE l = 0) :
    Calls Tryz.prog 27 #[.slice x l.length cx, .slice k key.length ck] w fun e w' => ∃ s, OpIs w w' e Fr.zero (refV s ((getE l : Nat) : Int)) := by
  have h0 : FrAt (w.alloc (.cells (frC Fr.zero At.zero) 25)) w.heap.size Fr.zero At.zero := FrAt.new w _ _
  have hb0 : Below w.heap.size w (w.alloc (.cells (frC Fr.zero At.zero) 25)) := Go.Joins.below_alloc1 _ _
  have hg := get_any (w.alloc (.cells (frC Fr.zero At.zero) 25)) x cx l (hx.below hb0) hl
  rw [getF_bad hE] at hg
  obtain ⟨E, hEE⟩ : ∃ E, E = getE l := ⟨_, rfl⟩
  rw [← hEE] at hg hE ⊢
  have d0 : ((E : Int) != 0) = true := by simp; omega
  have HN : Hid (((E : Int) == 0) = false) := by show _ = _; simp; omega
  have H0 : Hid (∀ w1, Below (w.alloc (.cells (frC Fr.zero At.zero) 25)).heap.size (w.alloc (.cells (frC Fr.zero At.zero) 25)) w1 → FrAt w1 w.heap.size Fr.zero At.zero ∧ Below w.heap.size w w1) := fun w1 hb1 => ⟨h0.below hb1, hb0.trans (hb1.mono hb0.size)⟩
  clear hEE h0 hb0 hx hE
  go_enter Tryz.func27, Tryz.ntmps27
  go_wp2_with fail
  refine hg.mono ?_
  rintro e w1 ⟨A1, rfl, hs1, hb1⟩
  obtain ⟨h1, hb⟩ := H0.out w1 hb1
  obtain ⟨W1, hst1, f1, s1, b1⟩ := fr_laid hs1
  have HST1 : Hid ((Instr.storeAt 25 (.pointer (some ⟨w1.heap.size, 0, none⟩)) (.agg (frC Fr.zero A1))).run Tryz.prog (w1.alloc (.cells (frC Fr.zero At.zero) 25)) = .ok () W1) := hst1
  obtain ⟨W, hst, hW, hs, hbW⟩ := got_stored (w := w) (h1.below b1) (hb.trans (b1.mono hb.size)) Fr.zero At.zero (Seen.zero _)
  have HB : Hid ((Instr.build 25 #[]).run Tryz.prog W1 = .ok (.agg (frC Fr.zero At.zero)) W1) := build_zero _
  have HST : Hid ((Instr.storeAt 25 (.pointer (some ⟨w.heap.size, 0, none⟩)) (.agg (frC Fr.zero At.zero))).run Tryz.prog W1 = .ok () W) := hst
  have HE : Hid (FrAt W w.heap.size Fr.zero At.zero ∧ Seen W Fr.zero At.zero ∧ Below w.heap.size w W) := ⟨hW, hs, hbW⟩
  clear hg hb1 H0 h1 hb hst hW hs hbW hst1 f1 s1 b1 hs1
  go_wp2_with (first | (refine wpList_build_run rfl 25 _ rfl [] _ rfl HB.out ?_) | (refine wpList_store_run rfl 25 _ _ rfl _ _ rfl rfl HST1.out ?_) | fail)
  refine (refuse_some _ _ HN.out _).mono ?_
  rintro e w2 ⟨rfl, rfl⟩
  go_wp2_with (first | (refine wpList_store_run rfl 25 _ _ rfl _ _ rfl rfl HST.out ?_) | fail)
  refine bodyPost_ret (res_fr_tmp rfl rfl HE.out.1) rfl ?_
  exact ⟨_, At.zero, rfl, HE.out.2⟩

set_option maxHeartbeats 1600000 in
set_option maxRecDepth 20000 in
theorem opened_good (w : World) (x : Option Addr) (cx : Nat) (l : List UInt8) (k : Option Addr) (ck : Nat) (key : List UInt8) (hT : Tabs w) (hx : Sees w x cx l) (hl : l.length ≤ 140737488351232) (hk : Sees w k ck key) (hE : getE l = 0) (b : Bool) (hb : holdsB key (getF l) = b) :
    Calls Tryz.prog 27 #[.slice x l.length cx, .slice k key.length ck] w fun e w' => ∃ v, RefIs (if b = true then 0 else 13) v ∧ OpIs w w' e (if b = true then getF l else Fr.zero) v := by
  have h0 : FrAt (w.alloc (.cells (frC Fr.zero At.zero) 25)) w.heap.size Fr.zero At.zero := FrAt.new w _ _
  have hb0 : Below w.heap.size w (w.alloc (.cells (frC Fr.zero At.zero) 25)) := Go.Joins.below_alloc1 _ _
  have hg := get_any (w.alloc (.cells (frC Fr.zero At.zero) 25)) x cx l (hx.below hb0) hl
  rw [hE] at hg
  have HK : Hid (Tabs w ∧ Sees w k ck key ∧ (getF l).n < 18446744073709551616 ∧ holdsB key (getF l) = b) := ⟨hT, hk, getF_n l, hb⟩
  have H0 : Hid (∀ w1, Below (w.alloc (.cells (frC Fr.zero At.zero) 25)).heap.size (w.alloc (.cells (frC Fr.zero At.zero) 25)) w1 → FrAt w1 w.heap.size Fr.zero At.zero ∧ Below w.heap.size w w1) := fun w1 hb1 => ⟨h0.below hb1, hb0.trans (hb1.mono hb0.size)⟩
  obtain ⟨G, hG⟩ : ∃ G, getF l = G := ⟨_, rfl⟩
  rw [hG] at hg HK ⊢
  obtain ⟨R, hR⟩ : ∃ R : Ending → World → Prop, R = fun e w' => ∃ v, RefIs (if b = true then 0 else 13) v ∧ OpIs w w' e (if b = true then G else Fr.zero) v := ⟨_, rfl⟩
  have HR : Hid (R = fun e w' => ∃ v, RefIs (if b = true then 0 else 13) v ∧ OpIs w w' e (if b = true then G else Fr.zero) v) := hR
  show Calls Tryz.prog 27 #[.slice x l.length cx, .slice k key.length ck] w (fun e w' => ∃ v, RefIs (if b = true then 0 else 13) v ∧ OpIs w w' e (if b = true then G else Fr.zero) v)
  rw [← hR]
  clear h0 hb0 hx hE hT hk hb hG hR
  go_enter Tryz.func27, Tryz.ntmps27
  go_wp2_with fail
  refine hg.mono ?_
  rintro e w1 ⟨A1, rfl, hs1, hb1⟩
  obtain ⟨h1, hb⟩ := H0.out w1 hb1
  obtain ⟨W1, hst1, f1, s1, b1⟩ := fr_laid hs1
  have hb1w : Below w.heap.size w W1 := hb.trans (b1.mono hb.size)
  have HST1 : Hid ((Instr.storeAt 25 (.pointer (some ⟨w1.heap.size, 0, none⟩)) (.agg (frC G A1))).run Tryz.prog (w1.alloc (.cells (frC Fr.zero At.zero) 25)) = .ok () W1) := hst1
  have HL1 : Hid ((Instr.loadAt 25 (.pointer (some ⟨w1.heap.size, 0, none⟩))).run Tryz.prog W1 = .ok (.agg (frC G A1)) W1) := f1.loads
  have hh := held_any W1 G A1 k ck key (HK.out.1.below hb1w) s1 HK.out.2.2.1 (HK.out.2.1.below hb1w) b HK.out.2.2.2
  have H1 : Hid (FrAt W1 w.heap.size Fr.zero At.zero ∧ FrAt W1 w1.heap.size G A1 ∧ Seen W1 G A1 ∧ Below w.heap.size w W1) := ⟨h1.below b1, f1, s1, hb1w⟩
  clear hg hb1 H0 h1 hb hst1 f1 s1 b1 hs1 HK hb1w
  go_wp2_with (first | (refine wpList_store_run rfl 25 _ _ rfl _ _ rfl rfl HST1.out ?_) | (refine wpList_gload_run rfl 25 _ rfl _ _ rfl HL1.out ?_) | fail)
  refine hh.mono ?_
  rintro e w2 ⟨⟨q1, q2⟩, hb2⟩
  have hbw : Below w.heap.size w w2 := H1.out.2.2.2.trans (hb2.mono H1.out.2.2.2.size)
  cases b
  · obtain ⟨s, rfl⟩ := q2 rfl
    obtain ⟨W, hst, hW, hs, hbW⟩ := got_stored (w := w) (H1.out.1.below hb2) hbw Fr.zero At.zero (Seen.zero _)
    have HB : Hid ((Instr.build 25 #[]).run Tryz.prog w2 = .ok (.agg (frC Fr.zero At.zero)) w2) := build_zero _
    have HST : Hid ((Instr.storeAt 25 (.pointer (some ⟨w.heap.size, 0, none⟩)) (.agg (frC Fr.zero At.zero))).run Tryz.prog w2 = .ok () W) := hst
    have HE : Hid (FrAt W w.heap.size Fr.zero At.zero ∧ Seen W Fr.zero At.zero ∧ Below w.heap.size w W) := ⟨hW, hs, hbW⟩
    clear hh q1 q2 hb2 hbw HST1 HL1 H1 hst hW hs hbW
    unfold refV
    go_wp2_with (first | (refine wpList_build_run rfl 25 _ rfl [] _ rfl HB.out ?_) | (refine wpList_store_run rfl 25 _ _ rfl _ _ rfl rfl HST.out ?_) | fail)
    refine bodyPost_ret (res_fr_tmp rfl rfl HE.out.1) rfl ?_
    rw [HR.out]
    exact ⟨_, .inr ⟨by decide, s, rfl⟩, At.zero, rfl, HE.out.2⟩
  · obtain rfl := q1 rfl
    obtain ⟨W, hst, hW, hs, hbW⟩ := got_stored (w := w) (H1.out.1.below hb2) hbw G A1 (H1.out.2.2.1.below hb2)
    have HL2 : Hid ((Instr.loadAt 25 (.pointer (some ⟨w1.heap.size, 0, none⟩))).run Tryz.prog w2 = .ok (.agg (frC G A1)) w2) := (H1.out.2.1.below hb2).loads
    have HST : Hid ((Instr.storeAt 25 (.pointer (some ⟨w.heap.size, 0, none⟩)) (.agg (frC G A1))).run Tryz.prog w2 = .ok () W) := hst
    have HE : Hid (FrAt W w.heap.size G A1 ∧ Seen W G A1 ∧ Below w.heap.size w W) := ⟨hW, hs, hbW⟩
    clear hh q1 q2 hb2 hbw HST1 HL1 H1 hst hW hs hbW
    go_wp2_with (first | (refine wpList_gload_run rfl 25 _ rfl _ _ rfl HL2.out ?_) | (refine wpList_store_run rfl 25 _ _ rfl _ _ rfl rfl HST.out ?_) | fail)
    refine bodyPost_ret (res_fr_tmp rfl rfl HE.out.1) rfl ?_
    rw [HR.out]
    exact ⟨_, .inl ⟨rfl, rfl⟩, A1, rfl, HE.out.2⟩

theorem opened_any (w : World) (x : Option Addr) (cx : Nat) (l : List UInt8) (k : Option Addr) (ck : Nat) (key : List UInt8) (hT : Tabs w) (hx : Sees w x cx l) (hl : l.length ≤ 140737488351232) (hk : Sees w k ck key) :
    Calls Tryz.prog 27 #[.slice x l.length cx, .slice k key.length ck] w fun e w' => ∃ v, RefIs (openE l key) v ∧ OpIs w w' e (openF l key) v := by
  by_cases hE : getE l = 0
  · have h := opened_good w x cx l k ck key hT hx hl hk hE _ rfl
    have e1 : openE l key = if holdsB key (getF l) = true then 0 else 13 := if_pos hE
    have e2 : openF l key = if holdsB key (getF l) = true then getF l else Fr.zero := by
      unfold openF
      rw [e1]
      by_cases hh : holdsB key (getF l) = true
      · rw [if_pos hh, if_pos hh]; rfl
      · rw [if_neg hh, if_neg hh]; rfl
    rw [e1, e2]
    exact h
  · have e1 : openE l key = getE l := if_neg hE
    have e2 : openF l key = Fr.zero := by unfold openF; rw [e1, if_neg hE]
    rw [e1, e2]
    refine (opened_bytes w x cx l k ck key hx hl hE).mono ?_
    rintro e w' ⟨s, h⟩
    exact ⟨_, .inr ⟨hE, s, rfl⟩, h⟩

/-- number, of whatever was refused. -/
theorem number_ref (n : Nat) (v : Value) (h : RefIs n v) (hn : n ≤ 13) (w : World) : Calls Tryz.prog 20 #[v] w fun e w' => e = .returned (.int .i64 (n : Int)) ∧ Below w.heap.size w w' := by
  rcases h with ⟨rfl, rfl⟩ | ⟨h0, s, rfl⟩
  · exact (number_none w).mono fun e w' ⟨h1, h2⟩ => ⟨h1, by rw [h2]; exact Below.refl _ _⟩
  · exact number_some s n (by omega) hn w

/-- A store whose run is known, as an operation. -/
theorem op_store_run {P : Program} {o : Oper} {a : Act} {w w' : World} {K : Act → World → Prop} {Q : Exit → Act → World → Prop} (ty : TypeId) (x y : Operand) (ho : o.op = .store ty x y)
    (v u : Value) (hx : a.eval x = v) (hy : a.eval y = u) (hrun : (Instr.storeAt ty v u).run P w = .ok () w') (h : K (a.put o.dst undef) w') : Oper.wp P o a w K Q := by
  unfold Oper.wp execOp
  simp only [ho, hx, hy, Sem.run_bind, hrun, Result.andThen_ok, Sem.run_pure]
  exact h

set_option maxHeartbeats 1600000 in
set_option maxRecDepth 20000 in
theorem open_any (w : World) (x : Option Addr) (cx : Nat) (l : List UInt8) (k : Option Addr) (ck : Nat) (key : List UInt8) (hT : Tabs w) (hx : Sees w x cx l) (hl : l.length ≤ 140737488351232) (hk : Sees w k ck key) :
    Calls Tryz.prog 14 #[.slice x l.length cx, .slice k key.length ck] w fun e w' => Got w w' e (openF l key) ((openE l key : Nat) : Int) := by
  have h0 : FrAt (w.alloc (.cells (frC Fr.zero At.zero) 25)) w.heap.size Fr.zero At.zero := FrAt.new w _ _
  have hb0 : Below w.heap.size w (w.alloc (.cells (frC Fr.zero At.zero) 25)) := Go.Joins.below_alloc1 _ _
  have hg := opened_any (w.alloc (.cells (frC Fr.zero At.zero) 25)) x cx l k ck key (hT.below hb0) (hx.below hb0) hl (hk.below hb0)
  have H0 : Hid (∀ w1, Below (w.alloc (.cells (frC Fr.zero At.zero) 25)).heap.size (w.alloc (.cells (frC Fr.zero At.zero) 25)) w1 → FrAt w1 w.heap.size Fr.zero At.zero ∧ Below w.heap.size w w1) := fun w1 hb1 => ⟨h0.below hb1, hb0.trans (hb1.mono hb0.size)⟩
  have HE13 : Hid (openE l key ≤ 13) := openE_le l key
  generalize openE l key = E at *
  generalize openF l key = G at *
  clear h0 hb0 hx hT hk hl
  go_enter Tryz.func14, Tryz.ntmps14
  go_wp2_with fail
  refine hg.mono ?_
  rintro e w1 ⟨v, hv, A1, rfl, hs1, hb1⟩
  obtain ⟨h1, hb⟩ := H0.out w1 hb1
  obtain ⟨W1, hst1, f1, s1, b1⟩ := fr_laid hs1
  have hb1w : Below w.heap.size w W1 := hb.trans (b1.mono hb.size)
  have HST1 : Hid ((Instr.storeAt 25 (.pointer (some ⟨w1.heap.size, 0, none⟩)) (.agg (frC G A1))).run Tryz.prog (w1.alloc (.cells (frC Fr.zero At.zero) 25)) = .ok () W1) := hst1
  have H1 : Hid (FrAt W1 w.heap.size Fr.zero At.zero ∧ FrAt W1 w1.heap.size G A1 ∧ Seen W1 G A1 ∧ Below w.heap.size w W1 ∧ w.heap.size ≠ w1.heap.size) := ⟨h1.below b1, f1, s1, hb1w, Nat.ne_of_lt h1.lt⟩
  have HN : Hid (∀ w2, Calls Tryz.prog 20 #[v] w2 fun e w' => e = .returned (.int .i64 (E : Int)) ∧ Below w2.heap.size w2 w') := number_ref E v hv HE13.out
  clear hg hb1 H0 h1 hb hst1 f1 s1 b1 hs1 hb1w hv HE13
  go_wp2_with (first | (refine wpList_store_run rfl 25 _ _ rfl _ _ rfl rfl HST1.out ?_) | fail)
  clear HST1
  refine wp_region_noPanic ?_
  refine wp_region_held (S := fun W => FrAt W w1.heap.size G A1) (by kernel_rfl) ?_
  have hS : FrAt W1.drew w1.heap.size G A1 := H1.out.2.1.keep rfl
  refine any_take 0 (.agg (frC G A1)) rfl (by kernel_rfl) (by kernel_rfl) (by kernel_rfl) (fun _ _ _ h => h) (by rfl) (fun W hW => exec_load 25 (.tmp 6) rfl (.pointer (some ⟨w1.heap.size, 0, none⟩)) _ rfl hW.loads) hS ?_
  (try simp only [Act.put, List.setIfInBounds_toArray, List.set_cons_zero, List.set_cons_succ])
  refine any_take 1 v rfl (by kernel_rfl) (by kernel_rfl) (by kernel_rfl) (fun _ _ _ h => h) (by rfl) (by intro w _; go_simp) hS ?_
  (try simp only [Act.put, List.setIfInBounds_toArray, List.set_cons_zero, List.set_cons_succ])
  clear hS
  refine any_one 2 rfl (by kernel_rfl) (by rfl) (fun K hK => ?_)
  go_simp
  refine (HN.out _).mono ?_
  rintro e w3 ⟨rfl, hb3⟩
  have hb3' : Below W1.heap.size W1 w3 := (Below.refl _ W1).drew.trans (hb3.mono (Nat.le_refl _))
  have hS3 := H1.out.2.1.below hb3'
  refine hK.out _ _ hS3 (fun _ => ?_)
  clear hK hb3
  (try simp only [Act.put, List.setIfInBounds_toArray, List.set_cons_zero, List.set_cons_succ])
  obtain ⟨W, hst, hW, hs, hbW⟩ := got_stored (w := w) (H1.out.1.below hb3') (H1.out.2.2.2.1.trans (hb3'.mono H1.out.2.2.2.1.size)) G A1 (H1.out.2.2.1.below hb3')
  have HE : Hid (FrAt W w.heap.size G A1 ∧ Seen W G A1 ∧ Below w.heap.size w W) := ⟨hW, hs, hbW⟩
  refine any_one 3 rfl (by kernel_rfl) (by rfl) (fun K hK => ?_)
  refine op_store_run 25 _ _ rfl _ _ rfl rfl hst ?_
  have HS4 : Hid (FrAt W w1.heap.size G A1) := by
    show FrAt W w1.heap.size G A1
    have hsr : W = w3.setRow w.heap.size (frC G A1) := by
      have := (H1.out.1.below hb3').stores G A1
      rw [hst] at this
      cases this; rfl
    rw [hsr]
    exact hS3.keep (setRow_other _ _ _ _ (fun h => H1.out.2.2.2.2 h.symm))
  refine hK.out _ _ HS4.out (fun _ => ?_)
  clear hK hst hW hs hbW hS3 hb3' H1 HN
  refine any_one 4 rfl (by kernel_rfl) (by rfl) (fun K hK => ?_)
  go_simp
  refine hK.out _ _ HS4.out (fun _ => ?_)
  clear hK
  refine wpAnyH_done (by kernel_rfl) ?_ _
  refine NoPanic.normal ?_
  go_wp2
  refine bodyPost_ret (res_fr_tmp rfl rfl HE.out.1) rfl ?_
  exact ⟨A1, rfl, HE.out.2⟩
end Go.Proofs.YtaihjnaggmmiiaaGreatDoor
