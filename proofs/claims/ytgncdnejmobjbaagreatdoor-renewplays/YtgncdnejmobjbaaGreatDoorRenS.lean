/-
  The contract of key.
-/
import Derived.Test.YtgncdnejmobjbaaGreatDoorRenR
namespace Go.Proofs.YtgncdnejmobjbaaGreatDoor
open Go.ChangeShapes Go.WideShapes Go.ChangeAt Go.RowKit
set_option maxRecDepth 20000

theorem Gr.noObj {w : World} {R : Nat} {s : Rn} {oa : Option Addr} {oc : Nat} {Q0 N0 C0 : Nat} {x : PN} (h : Gr w R s oa oc Q0 N0 C0 x) : ∀ (j : Nat) (y : Int), (pnL s oa oc (.slice x.cd 16 x.cc) (.int .i64 (x.told : Int)) (.int .i64 (x.steps : Int)) (.slice (some ⟨x.b, 0, none⟩) x.T.length x.cap) (.slice (some ⟨Q0, 0, none⟩) N0 C0)).toArray[j]? ≠ some (.int .u8 y) := h.peb.noObj.u8
theorem Gr.store {w : World} {R : Nat} {s : Rn} {oa : Option Addr} {oc : Nat} {Q0 N0 C0 : Nat} {x : PN} (h : Gr w R s oa oc Q0 N0 C0 x) : Gr (w.setCell ⟨R, 18, none⟩ (.slice (some ⟨x.q, 0, none⟩) x.L.length x.kc)) R s oa oc x.q x.L.length x.kc x := by
  have ha : Apart (fun k => k = R) w (w.setCell ⟨R, 18, none⟩ (.slice (some ⟨x.q, 0, none⟩) x.L.length x.kc)) := (Apart.refl (fun k => k = R) w).setCell (b := R) (.inl rfl) 18 _
  have hp : ∀ k, k = R → ∀ i y, w.cell? ⟨k, i, none⟩ ≠ some (.int .u8 y) := by
    rintro k rfl i y e
    cases h.peb.kind e (by decide) (.inl rfl)
  have ho : (w.setCell ⟨R, 18, none⟩ (.slice (some ⟨x.q, 0, none⟩) x.L.length x.kc)).heap[R]? = _ := set_at (i := 18) _ h.at'
  refine ⟨⟨ho, h.peb.off, h.peb.nob, h.peb.ne, h.peb.stack.keep (heap_setCell_other _ _ _ _ h.peb.ne), fun y hy => (h.peb.keys y hy).off ha hp, h.peb.good, h.peb.len, h.peb.most⟩, h.kept.keep (heap_setCell_other _ _ _ _ h.ne), h.num, fun j p hj => (h.keys j p hj).off ha hp, h.own.off ha hp, h.ne, h.few⟩

set_option maxHeartbeats 3200000 in
theorem pkey_ok (w : World) (R : Nat) (s : Rn) (oa : Option Addr) (oc : Nat) (x : PN) (h : Gr w R s oa oc x.q x.L.length x.kc x) (i : Nat) (hi : i ≤ s.c.k.toNat) (hF : FTab w) (hT : KTab w) :
    Calls Tryz.prog 31 #[.pointer (some ⟨R, 0, none⟩), .int .i64 (i : Int)] w fun e w' => ∃ (d : Option Addr) (cd : Nat) (x' : PN), e = .returned (.slice d 16 cd) ∧ Sees w' d cd (s.key i) ∧ Gr w' R s oa oc x'.q x'.L.length x'.kc x' ∧ Later R w w' x x' := by
  have hm := h.peb.most
  have hbd : Below w.heap.size w w.drew := (Below.refl _ _).drew
  obtain ⟨j, hj⟩ : ∃ j, j = i + 1 := ⟨_, rfl⟩
  have KG := grown_ok w.drew R s oa oc x.q x.L.length x.kc x (h.below hbd) j (by omega) (hF.below hbd) (hT.below hbd)
  have c18 : w.drew.cell? ⟨R, 18, none⟩ = some (.slice (some ⟨x.q, 0, none⟩) x.L.length x.kc) := h.at'.cell 18 rfl
  have ei : (i : Int) + 1 = (j : Int) := by omega
  have HJ : Hid (j = i + 1) := hj
  have hj257 : j ≤ 257 := by omega
  have ewj : IntKind.i64.wrap (j : Int) = (j : Int) := by rw [IntKind.wrap_i64]; omega
  have hi257 : i ≤ 256 := by omega
  have hmf : ∀ (fn : Fn) (first cap : Array Value) (w : World), (Instr.makeFunc fn first cap).run Tryz.prog w = .ok (.func fn first cap) w := fun _ _ _ _ => rfl
  obtain ⟨L0, hL0⟩ : ∃ L0, L0 = x.L.length := ⟨_, rfl⟩
  have HL0 : Hid (L0 = x.L.length) := hL0
  rw [← hL0] at KG c18
  have HD : Hid (Below w.heap.size w w.drew) := hbd
  clear h hF hT hm hi hL0 hbd hj
  go_enter Tryz.func31, Tryz.ntmps31
  go_wp2_with fail
  refine wp_region_noPanic ?_
  refine wp_region_held (S := fun _ => True) (by kernel_rfl) ?_
  have hS := trivial
  refine any_take 0 ?vrkn1 rfl (by kernel_rfl) (by kernel_rfl) (by kernel_rfl) (fun _ _ _ h => h) (by rfl) ?hrkn1 hS ?_
  case hrkn1 => (intro w hSw; (try dsimp only at hSw); go_split_ands; go_simp; (try with_reducible rfl))
  (try simp only [Act.put, List.setIfInBounds_toArray, List.set_cons_zero, List.set_cons_succ])
  refine any_take 1 ?vrkn2 rfl (by kernel_rfl) (by kernel_rfl) (by kernel_rfl) (fun _ _ _ h => h) (by rfl) ?hrkn2 hS ?_
  case hrkn2 => (intro w hSw; (try dsimp only at hSw); go_split_ands; go_simp; (try with_reducible rfl))
  (try simp only [Act.put, List.setIfInBounds_toArray, List.set_cons_zero, List.set_cons_succ])
  refine any_take 2 ?vrkn3 rfl (by kernel_rfl) (by kernel_rfl) (by kernel_rfl) (fun _ _ _ h => h) (by rfl) ?hrkn3 hS ?_
  case hrkn3 => (intro w hSw; (try dsimp only at hSw); go_split_ands; go_simp; (try with_reducible rfl))
  (try simp only [Act.put, List.setIfInBounds_toArray, List.set_cons_zero, List.set_cons_succ])
  refine any_take 3 ?vrkn4 rfl (by kernel_rfl) (by kernel_rfl) (by kernel_rfl) (fun _ _ _ h => h) (by rfl) ?hrkn4 hS ?_
  case hrkn4 => (intro w hSw; (try dsimp only at hSw); go_split_ands; go_simp; (try with_reducible rfl))
  (try simp only [Act.put, List.setIfInBounds_toArray, List.set_cons_zero, List.set_cons_succ])
  refine any_take 5 ?vrkn5 rfl (by kernel_rfl) (by kernel_rfl) (by kernel_rfl) (fun _ _ _ h => h) (by rfl) ?hrkn5 hS ?_
  case hrkn5 => (intro w hSw; (try dsimp only at hSw); go_split_ands; go_simp; (try with_reducible rfl))
  (try simp only [Act.put, List.setIfInBounds_toArray, List.set_cons_zero, List.set_cons_succ])
  refine any_take 6 ?vrkn6 rfl (by kernel_rfl) (by kernel_rfl) (by kernel_rfl) (fun _ _ _ h => h) (by rfl) ?hrkn6 hS ?_
  case hrkn6 => (intro w hSw; (try dsimp only at hSw); go_split_ands; go_simp; (try with_reducible rfl))
  (try simp only [Act.put, List.setIfInBounds_toArray, List.set_cons_zero, List.set_cons_succ])
  refine any_take 7 ?vrkn7 rfl (by kernel_rfl) (by kernel_rfl) (by kernel_rfl) (fun _ _ _ h => h) (by rfl) ?hrkn7 hS ?_
  case hrkn7 => (intro w hSw; (try dsimp only at hSw); go_split_ands; go_simp; (try with_reducible rfl))
  (try simp only [Act.put, List.setIfInBounds_toArray, List.set_cons_zero, List.set_cons_succ])
  refine any_take 8 ?vrkn8 rfl (by kernel_rfl) (by kernel_rfl) (by kernel_rfl) (fun _ _ _ h => h) (by rfl) ?hrkn8 hS ?_
  case hrkn8 => (intro w hSw; (try dsimp only at hSw); go_split_ands; go_simp; (try with_reducible rfl))
  (try simp only [Act.put, List.setIfInBounds_toArray, List.set_cons_zero, List.set_cons_succ])
  refine any_take 9 ?vrkn9 rfl (by kernel_rfl) (by kernel_rfl) (by kernel_rfl) (fun _ _ _ h => h) (by rfl) ?hrkn9 hS ?_
  case hrkn9 => (intro w hSw; (try dsimp only at hSw); go_split_ands; go_simp; (try with_reducible rfl))
  (try simp only [Act.put, List.setIfInBounds_toArray, List.set_cons_zero, List.set_cons_succ])
  refine any_take 10 ?vrkn10 rfl (by kernel_rfl) (by kernel_rfl) (by kernel_rfl) (fun _ _ _ h => h) (by rfl) ?hrkn10 hS ?_
  case hrkn10 => (intro w hSw; (try dsimp only at hSw); go_split_ands; go_simp; (try with_reducible rfl))
  (try simp only [Act.put, List.setIfInBounds_toArray, List.set_cons_zero, List.set_cons_succ])
  refine any_one 4 rfl (by kernel_rfl) (by rfl) (fun K hK => ?_)
  have hSS : _ := hS
  clear hS
  go_simp
  clear hSS
  refine hK.out _ _ (trivial) (fun hS => ?_)
  clear hK
  (try simp only [Act.put, List.setIfInBounds_toArray, List.set_cons_zero, List.set_cons_succ])
  refine any_one 11 rfl (by kernel_rfl) (by rfl) (fun K hK => ?_)
  have hSS : _ := hS
  clear hS
  go_simp
  refine KG.mono ?_
  rintro ev w1 ⟨y, rfl, hG1, hn1, hl1⟩
  have c18b := hG1.at'.cell 18 rfl
  have z18 := hG1.at'.fz 18
  obtain ⟨L1, hL1⟩ : ∃ L1, L1 = y.L.length := ⟨_, rfl⟩
  have H1 : Hid (Gr w1 R s oa oc x.q L0 x.kc y ∧ j ≤ y.L.length ∧ Later R w.drew w1 x y ∧ L1 = y.L.length) := ⟨hG1, hn1, hl1, hL1⟩
  rw [← hL1]
  clear hSS KG hG1 hn1 hl1 hL1 c18
  refine hK.out _ _ (trivial) (fun hS => ?_)
  clear hK
  (try simp only [Act.put, List.setIfInBounds_toArray, List.set_cons_zero, List.set_cons_succ])
  refine any_take 12 ?vrkn11 rfl (by kernel_rfl) (by kernel_rfl) (by kernel_rfl) (fun _ _ _ h => h) (by rfl) ?hrkn11 hS ?_
  case hrkn11 => (intro w hSw; (try dsimp only at hSw); go_split_ands; go_simp; (try with_reducible rfl))
  (try simp only [Act.put, List.setIfInBounds_toArray, List.set_cons_zero, List.set_cons_succ])
  refine any_take 13 ?vrkn12 rfl (by kernel_rfl) (by kernel_rfl) (by kernel_rfl) (fun _ _ _ h => h) (by rfl) ?hrkn12 hS ?_
  case hrkn12 => (intro w hSw; (try dsimp only at hSw); go_split_ands; go_simp; (try with_reducible rfl))
  (try simp only [Act.put, List.setIfInBounds_toArray, List.set_cons_zero, List.set_cons_succ])
  refine any_one 14 rfl (by kernel_rfl) (by rfl) (fun K hK => ?_)
  have hSS : _ := hS
  clear hS
  go_simp
  clear hSS
  refine hK.out _ _ (trivial) (fun hS => ?_)
  clear hK
  (try simp only [Act.put, List.setIfInBounds_toArray, List.set_cons_zero, List.set_cons_succ])
  refine wpAnyH_done (by kernel_rfl) ?_ _
  refine NoPanic.normal ?_
  clear hS c18b z18
  have HG : Hid (Gr (w1.setCell ⟨R, 18, none⟩ (.slice (some ⟨y.q, 0, none⟩) L1 y.kc)) R s oa oc y.q L1 y.kc y) := by rw [H1.out.2.2.2]; exact H1.out.1.store
  have HA : Hid (Apart (y.foot R) w1 (w1.setCell ⟨R, 18, none⟩ (.slice (some ⟨y.q, 0, none⟩) L1 y.kc))) := (Apart.refl (y.foot R) w1).setCell (b := R) (.inl (.inl rfl)) 18 _
  obtain ⟨w2, hw2⟩ : ∃ w2, w2 = w1.setCell ⟨R, 18, none⟩ (.slice (some ⟨y.q, 0, none⟩) L1 y.kc) := ⟨_, rfl⟩
  rw [← hw2] at HG HA ⊢
  obtain ⟨p, hp⟩ : ∃ p, y.L[i]? = some p := ⟨y.L[i]'(by have := H1.out.2.1; have := HJ.out; omega), by simp⟩
  have ci := HG.out.kept.get hp
  have hs := HG.out.keys i p hp
  have KC := bclone_any w2 p.1 p.2 _ hs (by rw [Rn.key_len]; omega)
  rw [Rn.key_len] at KC
  have c18c := HG.out.at'.cell 18 rfl
  have hiL : (i : Int) < (L1 : Int) := by have := H1.out.2.1; have := H1.out.2.2.2; have := HJ.out; omega
  clear hw2 hp hs
  go_wp2_with fail
  refine KC.mono ?_
  rintro ev w3 ⟨d, cd, rfl, hs3, hb3⟩
  have HE : Hid (Sees w3 d cd (s.key i) ∧ Gr w3 R s oa oc y.q y.L.length y.kc y ∧ Later R w w3 x y) := by
    refine ⟨hs3, by rw [← H1.out.2.2.2]; exact HG.out.below hb3, ?_⟩
    have l1 : Later R w w1 x y := by
      have hl := H1.out.2.2.1
      exact ⟨(Apart.of_below (F := x.foot R) HD.out).trans hl.apart fun k hk => .inl hk, hl.q, hl.b⟩
    have l2 : Later R w1 w2 y y := ⟨HA.out, .inl rfl, .inl rfl⟩
    have l3 : Later R w2 w3 y y := ⟨Apart.of_below hb3, .inl rfl, .inl rfl⟩
    exact (l1.trans l2).trans l3
  clear KC hs3 hb3
  go_wp2
  go_ret
  exact ⟨d, cd, y, rfl, HE.out⟩
end Go.Proofs.YtgncdnejmobjbaaGreatDoor
