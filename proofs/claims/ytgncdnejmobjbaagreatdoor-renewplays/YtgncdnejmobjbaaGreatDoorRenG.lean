/-
  The document's chain of a speaker: Over, Begin.
-/
import Derived.Test.YtgncdnejmobjbaaGreatDoorRenF
namespace Go.Proofs.YtgncdnejmobjbaaGreatDoor
open Go.ChangeShapes Go.WideShapes Go.ChangeAt Go.RowKit
set_option maxRecDepth 20000

set_option maxHeartbeats 1600000 in
theorem dover_any (w : World) (R : Nat) (s : Rn) (oa : Option Addr) (oc : Nat) (ka : Option Addr) (kc : Nat) (h : DNAll w R s oa oc ka kc) (r : Int) :
    Calls Tryz.prog 16 #[.pointer (some ⟨R, 0, none⟩), .int .i64 r] w fun e w' => e = .returned (.bool (s.over r)) ∧ Below w.heap.size w w' := by
  have HN : Hid (DNAll w R s oa oc ka kc) := h
  have HQ : Hid (∀ V, Below w.heap.size w V → (V.cell? ⟨R, 12, none⟩ = some (.int .i64 s.ep) ∧ (Instr.loadAt 23 (.pointer (some ⟨R, 0, none⟩))).run Tryz.prog V = .ok (.agg (cfC s.c)) V ∧ V.cell? ⟨R, 13, none⟩ = some (.int .i64 s.st))) := fun V hb => ⟨(HN.out.below hb).at'.cell 12 rfl, (HN.out.below hb).at'.loads, (HN.out.below hb).at'.cell 13 rfl⟩
  have hS0 := HQ.out w.drew (Below.refl _ _).drew
  clear h
  by_cases h0 : s.ep < 0
  · have hv : Hid (s.over r = true) := by unfold Rn.over; rw [decide_eq_true h0]; rfl
    rw [hv.out]
    clear HN
    go_enter Tryz.func16, Tryz.ntmps16
    go_wp2_with fail
    refine wp_region_noPanic ?_
    refine wp_region_held (S := fun V => V.cell? ⟨R, 12, none⟩ = some (.int .i64 s.ep) ∧ (Instr.loadAt 23 (.pointer (some ⟨R, 0, none⟩))).run Tryz.prog V = .ok (.agg (cfC s.c)) V ∧ V.cell? ⟨R, 13, none⟩ = some (.int .i64 s.st)) (by kernel_rfl) ?_
    have hS := hS0
    refine any_take 0 ?vran1 rfl (by kernel_rfl) (by kernel_rfl) (by kernel_rfl) (fun _ _ _ h => h) (by rfl) ?hran1 hS ?_
    case hran1 => (intro w hSw; (try dsimp only at hSw); go_split_ands; go_simp; (try with_reducible rfl))
    (try simp only [Act.put, List.setIfInBounds_toArray, List.set_cons_zero, List.set_cons_succ])
    refine any_take 1 ?vran2 rfl (by kernel_rfl) (by kernel_rfl) (by kernel_rfl) (fun _ _ _ h => h) (by rfl) ?hran2 hS ?_
    case hran2 => (intro w hSw; (try dsimp only at hSw); go_split_ands; go_simp; (try with_reducible rfl))
    (try simp only [Act.put, List.setIfInBounds_toArray, List.set_cons_zero, List.set_cons_succ])
    refine any_take 2 ?vran3 rfl (by kernel_rfl) (by kernel_rfl) (by kernel_rfl) (fun _ _ _ h => h) (by rfl) ?hran3 hS ?_
    case hran3 => (intro w hSw; (try dsimp only at hSw); go_split_ands; go_simp; (try with_reducible rfl))
    (try simp only [Act.put, List.setIfInBounds_toArray, List.set_cons_zero, List.set_cons_succ])
    refine any_take 3 ?vran4 rfl (by kernel_rfl) (by kernel_rfl) (by kernel_rfl) (fun _ _ _ h => h) (by rfl) ?hran4 hS ?_
    case hran4 => (intro w hSw; (try dsimp only at hSw); go_split_ands; go_simp; (try with_reducible rfl))
    (try simp only [Act.put, List.setIfInBounds_toArray, List.set_cons_zero, List.set_cons_succ])
    refine any_take 4 (Value.bool true) rfl (by kernel_rfl) (by kernel_rfl) (by kernel_rfl) (fun _ _ _ h => h) (by rfl) (by intro w hSw; (try dsimp only at hSw); go_split_ands; go_simp; first | done | (simp; omega)) hS ?_
    (try simp only [Act.put, List.setIfInBounds_toArray, List.set_cons_zero, List.set_cons_succ])
    refine any_take 5 ?vran5 rfl (by kernel_rfl) (by kernel_rfl) (by kernel_rfl) (fun _ _ _ h => h) (by rfl) ?hran5 hS ?_
    case hran5 => (intro w hSw; (try dsimp only at hSw); go_split_ands; go_simp; (try with_reducible rfl))
    (try simp only [Act.put, List.setIfInBounds_toArray, List.set_cons_zero, List.set_cons_succ])
    refine any_skip 6 rfl (by kernel_rfl) (by kernel_rfl) (by kernel_rfl) (fun _ _ _ h => h) (by rfl) hS ?_
    (try simp only [Act.put, List.setIfInBounds_toArray, List.set_cons_zero, List.set_cons_succ])
    refine any_skip 7 rfl (by kernel_rfl) (by kernel_rfl) (by kernel_rfl) (fun _ _ _ h => h) (by rfl) hS ?_
    (try simp only [Act.put, List.setIfInBounds_toArray, List.set_cons_zero, List.set_cons_succ])
    refine any_skip 8 rfl (by kernel_rfl) (by kernel_rfl) (by kernel_rfl) (fun _ _ _ h => h) (by rfl) hS ?_
    (try simp only [Act.put, List.setIfInBounds_toArray, List.set_cons_zero, List.set_cons_succ])
    refine any_skip 9 rfl (by kernel_rfl) (by kernel_rfl) (by kernel_rfl) (fun _ _ _ h => h) (by rfl) hS ?_
    (try simp only [Act.put, List.setIfInBounds_toArray, List.set_cons_zero, List.set_cons_succ])
    refine any_skip 10 rfl (by kernel_rfl) (by kernel_rfl) (by kernel_rfl) (fun _ _ _ h => h) (by rfl) hS ?_
    (try simp only [Act.put, List.setIfInBounds_toArray, List.set_cons_zero, List.set_cons_succ])
    refine any_skip 11 rfl (by kernel_rfl) (by kernel_rfl) (by kernel_rfl) (fun _ _ _ h => h) (by rfl) hS ?_
    (try simp only [Act.put, List.setIfInBounds_toArray, List.set_cons_zero, List.set_cons_succ])
    refine any_skip 12 rfl (by kernel_rfl) (by kernel_rfl) (by kernel_rfl) (fun _ _ _ h => h) (by rfl) hS ?_
    (try simp only [Act.put, List.setIfInBounds_toArray, List.set_cons_zero, List.set_cons_succ])
    refine any_skip 13 rfl (by kernel_rfl) (by kernel_rfl) (by kernel_rfl) (fun _ _ _ h => h) (by rfl) hS ?_
    (try simp only [Act.put, List.setIfInBounds_toArray, List.set_cons_zero, List.set_cons_succ])
    refine any_skip 14 rfl (by kernel_rfl) (by kernel_rfl) (by kernel_rfl) (fun _ _ _ h => h) (by rfl) hS ?_
    (try simp only [Act.put, List.setIfInBounds_toArray, List.set_cons_zero, List.set_cons_succ])
    refine any_skip 15 rfl (by kernel_rfl) (by kernel_rfl) (by kernel_rfl) (fun _ _ _ h => h) (by rfl) hS ?_
    (try simp only [Act.put, List.setIfInBounds_toArray, List.set_cons_zero, List.set_cons_succ])
    refine any_take 16 ?vran6 rfl (by kernel_rfl) (by kernel_rfl) (by kernel_rfl) (fun _ _ _ h => h) (by rfl) ?hran6 hS ?_
    case hran6 => (intro w hSw; (try dsimp only at hSw); go_split_ands; go_simp; (try with_reducible rfl))
    (try simp only [Act.put, List.setIfInBounds_toArray, List.set_cons_zero, List.set_cons_succ])
    refine any_take 17 ?vran7 rfl (by kernel_rfl) (by kernel_rfl) (by kernel_rfl) (fun _ _ _ h => h) (by rfl) ?hran7 hS ?_
    case hran7 => (intro w hSw; (try dsimp only at hSw); go_split_ands; go_simp; (try with_reducible rfl))
    (try simp only [Act.put, List.setIfInBounds_toArray, List.set_cons_zero, List.set_cons_succ])
    refine wpAnyH_done (by kernel_rfl) ?_ _
    refine NoPanic.normal ?_
    clear hS hS0
    go_wp2
    go_ret
    exact ⟨rfl, (Below.refl _ _).drew⟩
  · have hv : s.over r = ovB s.c s.st r := by unfold Rn.over; rw [decide_eq_false h0]; rfl
    rw [hv]
    have K1 := rover_ok w.drew s.c s.st r
    obtain ⟨v, hv2⟩ : ∃ v, v = ovB s.c s.st r := ⟨_, rfl⟩
    rw [← hv2] at K1 ⊢
    clear HN hv hv2
    go_enter Tryz.func16, Tryz.ntmps16
    go_wp2_with fail
    refine wp_region_noPanic ?_
    refine wp_region_held (S := fun V => V.cell? ⟨R, 12, none⟩ = some (.int .i64 s.ep) ∧ (Instr.loadAt 23 (.pointer (some ⟨R, 0, none⟩))).run Tryz.prog V = .ok (.agg (cfC s.c)) V ∧ V.cell? ⟨R, 13, none⟩ = some (.int .i64 s.st)) (by kernel_rfl) ?_
    have hS := hS0
    refine any_take 0 ?vrbn1 rfl (by kernel_rfl) (by kernel_rfl) (by kernel_rfl) (fun _ _ _ h => h) (by rfl) ?hrbn1 hS ?_
    case hrbn1 => (intro w hSw; (try dsimp only at hSw); go_split_ands; go_simp; (try with_reducible rfl))
    (try simp only [Act.put, List.setIfInBounds_toArray, List.set_cons_zero, List.set_cons_succ])
    refine any_take 1 ?vrbn2 rfl (by kernel_rfl) (by kernel_rfl) (by kernel_rfl) (fun _ _ _ h => h) (by rfl) ?hrbn2 hS ?_
    case hrbn2 => (intro w hSw; (try dsimp only at hSw); go_split_ands; go_simp; (try with_reducible rfl))
    (try simp only [Act.put, List.setIfInBounds_toArray, List.set_cons_zero, List.set_cons_succ])
    refine any_take 2 ?vrbn3 rfl (by kernel_rfl) (by kernel_rfl) (by kernel_rfl) (fun _ _ _ h => h) (by rfl) ?hrbn3 hS ?_
    case hrbn3 => (intro w hSw; (try dsimp only at hSw); go_split_ands; go_simp; (try with_reducible rfl))
    (try simp only [Act.put, List.setIfInBounds_toArray, List.set_cons_zero, List.set_cons_succ])
    refine any_take 3 ?vrbn4 rfl (by kernel_rfl) (by kernel_rfl) (by kernel_rfl) (fun _ _ _ h => h) (by rfl) ?hrbn4 hS ?_
    case hrbn4 => (intro w hSw; (try dsimp only at hSw); go_split_ands; go_simp; (try with_reducible rfl))
    (try simp only [Act.put, List.setIfInBounds_toArray, List.set_cons_zero, List.set_cons_succ])
    refine any_take 4 (Value.bool false) rfl (by kernel_rfl) (by kernel_rfl) (by kernel_rfl) (fun _ _ _ h => h) (by rfl) (by intro w hSw; (try dsimp only at hSw); go_split_ands; go_simp; first | done | (simp; omega)) hS ?_
    (try simp only [Act.put, List.setIfInBounds_toArray, List.set_cons_zero, List.set_cons_succ])
    refine any_take 5 ?vrbn5 rfl (by kernel_rfl) (by kernel_rfl) (by kernel_rfl) (fun _ _ _ h => h) (by rfl) ?hrbn5 hS ?_
    case hrbn5 => (intro w hSw; (try dsimp only at hSw); go_split_ands; go_simp; (try with_reducible rfl))
    (try simp only [Act.put, List.setIfInBounds_toArray, List.set_cons_zero, List.set_cons_succ])
    refine any_take 6 ?vrbn6 rfl (by kernel_rfl) (by kernel_rfl) (by kernel_rfl) (fun _ _ _ h => h) (by rfl) ?hrbn6 hS ?_
    case hrbn6 => (intro w hSw; (try dsimp only at hSw); go_split_ands; go_simp; (try with_reducible rfl))
    (try simp only [Act.put, List.setIfInBounds_toArray, List.set_cons_zero, List.set_cons_succ])
    refine any_take 7 ?vrbn7 rfl (by kernel_rfl) (by kernel_rfl) (by kernel_rfl) (fun _ _ _ h => h) (by rfl) ?hrbn7 hS ?_
    case hrbn7 => (intro w hSw; (try dsimp only at hSw); go_split_ands; go_simp; (try with_reducible rfl))
    (try simp only [Act.put, List.setIfInBounds_toArray, List.set_cons_zero, List.set_cons_succ])
    refine any_take 8 ?vrbn8 rfl (by kernel_rfl) (by kernel_rfl) (by kernel_rfl) (fun _ _ _ h => h) (by rfl) ?hrbn8 hS ?_
    case hrbn8 => (intro w hSw; (try dsimp only at hSw); go_split_ands; go_simp; (try with_reducible rfl))
    (try simp only [Act.put, List.setIfInBounds_toArray, List.set_cons_zero, List.set_cons_succ])
    refine any_take 9 (Value.agg (cfC s.c)) rfl (by kernel_rfl) (by kernel_rfl) (by kernel_rfl) (fun _ _ _ h => h) (by rfl) (fun W hW => exec_load 23 (.tmp 13) rfl _ _ rfl hW.2.1) hS ?_
    (try simp only [Act.put, List.setIfInBounds_toArray, List.set_cons_zero, List.set_cons_succ])
    refine any_take 10 ?vrbn9 rfl (by kernel_rfl) (by kernel_rfl) (by kernel_rfl) (fun _ _ _ h => h) (by rfl) ?hrbn9 hS ?_
    case hrbn9 => (intro w hSw; (try dsimp only at hSw); go_split_ands; go_simp; (try with_reducible rfl))
    (try simp only [Act.put, List.setIfInBounds_toArray, List.set_cons_zero, List.set_cons_succ])
    refine any_take 11 ?vrbn10 rfl (by kernel_rfl) (by kernel_rfl) (by kernel_rfl) (fun _ _ _ h => h) (by rfl) ?hrbn10 hS ?_
    case hrbn10 => (intro w hSw; (try dsimp only at hSw); go_split_ands; go_simp; (try with_reducible rfl))
    (try simp only [Act.put, List.setIfInBounds_toArray, List.set_cons_zero, List.set_cons_succ])
    refine any_take 12 ?vrbn11 rfl (by kernel_rfl) (by kernel_rfl) (by kernel_rfl) (fun _ _ _ h => h) (by rfl) ?hrbn11 hS ?_
    case hrbn11 => (intro w hSw; (try dsimp only at hSw); go_split_ands; go_simp; (try with_reducible rfl))
    (try simp only [Act.put, List.setIfInBounds_toArray, List.set_cons_zero, List.set_cons_succ])
    refine any_take 13 ?vrbn12 rfl (by kernel_rfl) (by kernel_rfl) (by kernel_rfl) (fun _ _ _ h => h) (by rfl) ?hrbn12 hS ?_
    case hrbn12 => (intro w hSw; (try dsimp only at hSw); go_split_ands; go_simp; (try with_reducible rfl))
    (try simp only [Act.put, List.setIfInBounds_toArray, List.set_cons_zero, List.set_cons_succ])
    refine any_take 14 ?vrbn13 rfl (by kernel_rfl) (by kernel_rfl) (by kernel_rfl) (fun _ _ _ h => h) (by rfl) ?hrbn13 hS ?_
    case hrbn13 => (intro w hSw; (try dsimp only at hSw); go_split_ands; go_simp; (try with_reducible rfl))
    (try simp only [Act.put, List.setIfInBounds_toArray, List.set_cons_zero, List.set_cons_succ])
    refine any_one 15 rfl (by kernel_rfl) (by rfl) (fun K hK => ?_)
    clear hS
    go_simp
    refine K1.mono ?_
    rintro ev w1 ⟨rfl, hb1⟩
    have HB1 : Hid (Below w.heap.size w w1) := (Below.refl _ _).drew.trans hb1
    have HQ1 := HQ.out w1 HB1.out
    clear hb1 K1
    refine hK.out _ _ (HQ1) (fun hS => ?_)
    clear hK
    (try simp only [Act.put, List.setIfInBounds_toArray, List.set_cons_zero, List.set_cons_succ])
    refine any_take 16 ?vrbn14 rfl (by kernel_rfl) (by kernel_rfl) (by kernel_rfl) (fun _ _ _ h => h) (by rfl) ?hrbn14 hS ?_
    case hrbn14 => (intro w hSw; (try dsimp only at hSw); go_split_ands; go_simp; (try with_reducible rfl))
    (try simp only [Act.put, List.setIfInBounds_toArray, List.set_cons_zero, List.set_cons_succ])
    refine any_take 17 ?vrbn15 rfl (by kernel_rfl) (by kernel_rfl) (by kernel_rfl) (fun _ _ _ h => h) (by rfl) ?hrbn15 hS ?_
    case hrbn15 => (intro w hSw; (try dsimp only at hSw); go_split_ands; go_simp; (try with_reducible rfl))
    (try simp only [Act.put, List.setIfInBounds_toArray, List.set_cons_zero, List.set_cons_succ])
    refine wpAnyH_done (by kernel_rfl) ?_ _
    refine NoPanic.normal ?_
    clear hS hS0 HQ1
    go_wp2
    go_ret
    exact ⟨rfl, HB1.out⟩

/-- What Begin leaves. -/
def NBegun (w : World) (R : Nat) (s' : Rn) (oa : Option Addr) (oc : Nat) (ka : Option Addr) (n : Int) (w' : World) : Prop := ∃ ka' kc, DNAll w' R s' oa oc ka' kc ∧ Apart (fun k => k = R) w w' ∧ ((n ≠ 0 ∧ ka' = ka) ∨ ∃ g, ka' = some ⟨g, 0, none⟩ ∧ w.heap.size ≤ g)

set_option maxHeartbeats 1600000 in
theorem dbegin_any (w : World) (R : Nat) (s : Rn) (oa : Option Addr) (oc : Nat) (ka : Option Addr) (kc : Nat) (h : DNAll w R s oa oc ka kc) (hok : s.ok) (e t : Int) :
    Calls Tryz.prog 8 #[.pointer (some ⟨R, 0, none⟩), .int .i64 e, .int .i64 t] w fun ev w' => ev = .returned (.int .i64 (s.begE e t)) ∧ NBegun w R (s.begV e t) oa oc ka (s.begE e t) w' := by
  have H : Hid (DNAll w R s oa oc ka kc) := h
  have c12 := h.at'.cell 12 rfl
  by_cases ha : 0 ≤ e ∧ e ≤ 65535 ∧ 0 ≤ t ∧ t < 1048576
  · obtain ⟨a1, a2, a3, a4⟩ := ha
    have n1 : ¬ e < 0 := by omega
    have n2 : ¬ 65535 < e := by omega
    have n3 : ¬ t < 0 := by omega
    have n4 : ¬ 1048576 ≤ t := by omega
    by_cases he : e ≤ s.ep
    · have hE : s.begE e t = 5 := by unfold Rn.begE; rw [if_pos ⟨a1, a2, a3, a4⟩, if_pos he]
      have hV : s.begV e t = s := if_neg (by rw [hE]; decide)
      rw [hE, hV]
      clear h hok hE hV a1 a2 a3 a4
      go_enter Tryz.func8, Tryz.ntmps8
      go_wp2
      go_ret
      exact ⟨rfl, ka, kc, H.out, Apart.of_below (Below.refl _ _), .inl ⟨by decide, rfl⟩⟩
    · have hE : s.begE e t = 0 := Rn.begE_zero.2 ⟨⟨a1, a2, a3, a4⟩, he⟩
      obtain ⟨s', hs'⟩ : ∃ s' : Rn, s' = { s with ep := e, st := t } := ⟨_, rfl⟩
      have hV : s.begV e t = s' := by rw [hs']; exact if_pos hE
      rw [hE, hV]
      have hk := nkeys hok.cfg
      have c10 := h.at'.cell 10 rfl
      have KS := rseed_any w oa oc s.own e h.own
      have hP : seedP s.own e = (keyOf s.own epochN [e.toNat], 0) := if_pos ⟨hok.own, a1, a2⟩
      rw [hP] at KS
      obtain ⟨ol, hol⟩ : ∃ ol, ol = s.own.length := ⟨_, rfl⟩
      rw [← hol] at c10 KS
      obtain ⟨seed, hseed⟩ : ∃ seed, seed = keyOf s.own epochN [e.toNat] := ⟨_, rfl⟩
      rw [← hseed] at KS
      have hsl : seed.length = 16 := by rw [hseed]; exact keyOf_length _ _ _
      have HSD : Hid (seed.length = 16 ∧ lastL seed = s'.last ∧ s'.c = s.c ∧ s'.ep = e ∧ s'.st = t ∧ s'.own = s.own ∧ s'.sl = s.sl ∧ 0 ≤ e ∧ 1 ≤ s.c.k ∧ s.c.k ≤ 256) := ⟨hsl, by rw [hseed, hs']; rfl, by rw [hs'], by rw [hs'], by rw [hs'], by rw [hs'], by rw [hs'], a1, hk.1, hk.2⟩
      clear h hok hE hV hP hol hseed hsl hs' hk a1 a2 a3 a4
      go_enter Tryz.func8, Tryz.ntmps8
      go_wp2_with fail
      refine KS.mono ?_
      rintro ev w1 ⟨d, cd, rfl, hs1, hb1⟩
      have H1 : Hid (DNAll w1 R s oa oc ka kc) := H.out.below hb1
      have HB1 : Hid (Below w.heap.size w w1) := hb1
      have c4 := H1.out.at'.cell 4 rfl
      obtain ⟨k, hkk⟩ : ∃ k : Nat, s.c.k = (k : Int) := ⟨s.c.k.toNat, by have := HSD.out.2.2.2.2.2.2.2.2; omega⟩
      have KA := rall_ok w1 d cd seed HSD.out.1 k (by have := HSD.out.2.2.2.2.2.2.2.2; omega) (by have := HSD.out.2.2.2.2.2.2.2.2; omega) hs1
      rw [HSD.out.1]
      rw [hkk] at c4
      have HKK : Hid (s.c.k = (k : Int)) := hkk
      clear KS hs1 hb1 hkk
      go_wp2_with fail
      refine KA.mono ?_
      rintro ev w2 ⟨g, rfl, hfu, hb2, hg2⟩
      have H2 : Hid (DNAll w2 R s oa oc ka kc) := H1.out.below hb2
      have HB2 : Hid (Below w.heap.size w w2) := HB1.out.trans (hb2.mono HB1.out.size)
      obtain ⟨s1, hs1⟩ : ∃ s1 : Rn, s1 = { s with ep := e } := ⟨_, rfl⟩
      obtain ⟨W3, hW3⟩ : ∃ W3, W3 = w2.setCell ⟨R, 12, none⟩ (.int .i64 e) := ⟨_, rfl⟩
      obtain ⟨W4, hW4⟩ : ∃ W4, W4 = W3.setCell ⟨R, 13, none⟩ (.int .i64 t) := ⟨_, rfl⟩
      obtain ⟨W5, hW5⟩ : ∃ W5, W5 = W4.setCell ⟨R, 14, none⟩ (.slice (some ⟨g, 0, none⟩) (k + 1) (k + 1)) := ⟨_, rfl⟩
      have a2 := H2.out.at'
      have a3 : DNAt W3 R s1 oa oc (.slice ka s.kn kc) := by rw [hW3, hs1]; exact a2.put 12 _ rfl
      obtain ⟨s2, hs2⟩ : ∃ s2 : Rn, s2 = { s with ep := e, st := t } := ⟨_, rfl⟩
      have hss : s' = s2 := by
        rw [hs2]
        obtain ⟨_, _, b1, b2, b3, b4, b5, _⟩ := HSD.out
        cases s'; cases s
        simp only at b1 b2 b3 b4 b5
        subst b1 b2 b3 b4 b5
        rfl
      have a4 : DNAt W4 R s2 oa oc (.slice ka s.kn kc) := by rw [hW4, hs2]; rw [hs1] at a3; exact a3.put 13 _ rfl
      have a5 : DNAt W5 R s2 oa oc (.slice (some ⟨g, 0, none⟩) (k + 1) (k + 1)) := by rw [hW5, hs2]; rw [hs2] at a4; exact a4.put 14 _ rfl
      have o3 : Sees W3 oa oc s.own := by rw [hW3]; exact H2.out.own.slot a2 (dnL_nob _ _ _ _ _ _) 12 _
      have o4 : Sees W4 oa oc s.own := by rw [hW4]; exact o3.slot a3 (dnL_nob _ _ _ _ _ _) 13 _
      have o5 : Sees W5 oa oc s.own := by rw [hW5]; exact o4.slot a4 (dnL_nob _ _ _ _ _ _) 14 _
      have f5 : Full W5 g k (lastL seed) := by rw [hW5]; refine Full.aside ?_ a4 14 _; rw [hW4]; refine Full.aside ?_ a3 13 _; rw [hW3]; exact hfu.aside a2 12 _
      have p5 : Apart (fun k => k = R) w W5 := by rw [hW5, hW4, hW3]; exact (((Apart.of_below (F := fun k => k = R) HB2.out).setCell (.inl rfl) 12 _).setCell (.inl rfl) 13 _).setCell (.inl rfl) 14 _
      have HS12 : Hid ((Instr.storeAt 3 (.pointer (some ⟨R, 12, none⟩)) (.int .i64 e)).run Tryz.prog w2 = .ok () W3) := by rw [hW3]; exact nstore_int w2 _ _ e (a2.cell 12 rfl) (a2.fz 12)
      have HS13 : Hid ((Instr.storeAt 3 (.pointer (some ⟨R, 13, none⟩)) (.int .i64 t)).run Tryz.prog W3 = .ok () W4) := by rw [hW4]; exact nstore_int W3 _ _ t (a3.cell 13 rfl) (a3.fz 13)
      have HS14 : Hid ((Instr.storeAt 50 (.pointer (some ⟨R, 14, none⟩)) (.slice (some ⟨g, 0, none⟩) (k + 1) (k + 1))).run Tryz.prog W4 = .ok () W5) := by rw [hW5]; exact nstore_rows W4 _ _ _ _ _ (a4.cell 14 rfl) (a4.fz 14)
      have HE : Hid (NBegun w R s' oa oc ka 0 W5) := by
        obtain ⟨_, b0, b1, b2, b3, b4, b5, b6, _⟩ := HSD.out
        refine ⟨some ⟨g, 0, none⟩, k + 1, ⟨?_, by rw [b4]; exact o5, fun _ => ⟨g, rfl, ?_⟩⟩, p5, .inr ⟨g, rfl, Nat.le_trans HB1.out.size hg2⟩⟩
        · rw [hss, show s2.kn = k + 1 from by rw [← hss]; unfold Rn.kn; rw [if_neg (by omega), b1, HKK.out]; rfl]; exact a5
        · rw [← b0, b1, HKK.out]; exact f5
      clear KA hfu hb2 hg2 hs1 hs2 hW3 hW4 hW5 a2 a3 a4 a5 o3 o4 o5 f5 p5 hss c4 c10 c12
      go_wp2_with (first | (refine wpList_store_run rfl 3 _ _ rfl _ _ rfl rfl HS12.out ?_) | (refine wpList_store_run rfl 3 _ _ rfl _ _ rfl rfl HS13.out ?_) | (refine wpList_store_run rfl 50 _ _ rfl _ _ rfl rfl HS14.out ?_) | fail)
      go_ret
      exact ⟨rfl, HE.out⟩
  · have hE : s.begE e t = 1 := if_neg ha
    have hV : s.begV e t = s := if_neg (by rw [hE]; decide)
    rw [hE, hV]
    have HE : Hid (NBegun w R s oa oc ka 1 w) := ⟨ka, kc, h, Apart.of_below (Below.refl _ _), .inl ⟨by decide, rfl⟩⟩
    clear h hok hE hV
    by_cases e0 : e < 0
    · clear ha
      go_enter Tryz.func8, Tryz.ntmps8
      go_wp2
      go_ret
      exact ⟨rfl, HE.out⟩
    · by_cases e1 : 65535 < e
      · clear ha
        go_enter Tryz.func8, Tryz.ntmps8
        go_wp2
        go_ret
        exact ⟨rfl, HE.out⟩
      · by_cases e2 : t < 0
        · clear ha
          go_enter Tryz.func8, Tryz.ntmps8
          go_wp2
          go_ret
          exact ⟨rfl, HE.out⟩
        · have e3 : 1048576 ≤ t := Int.not_lt.1 fun hh => ha ⟨by omega, by omega, by omega, hh⟩
          clear ha
          go_enter Tryz.func8, Tryz.ntmps8
          go_wp2
          go_ret
          exact ⟨rfl, HE.out⟩
end Go.Proofs.YtgncdnejmobjbaaGreatDoor
