/-
  The program's chain of a speaker: Mac, Told, Known, Over.
-/
import Derived.Test.YtgncdnejmobjbaaGreatDoorRenS
import Derived.Test.YtgncdnejmobjbaaGreatDoorRenN
namespace Go.Proofs.YtgncdnejmobjbaaGreatDoor
open Go.ChangeShapes Go.WideShapes Go.ChangeAt Go.RowKit
set_option maxRecDepth 20000

/-- What is told: an index, bytes, an error; the program's chain behind it. -/
def PTells (w : World) (R : Nat) (s : Rn) (oa : Option Addr) (oc : Nat) (x : PN) (w' : World) (e : Ending) (t : Int × List UInt8 × Int) : Prop := ∃ d cd x', e = .returned (.tuple #[.int .i64 t.1, .slice d t.2.1.length cd, .int .i64 t.2.2]) ∧ Sees w' d cd t.2.1 ∧ PNAll w' R s oa oc x' ∧ Later R w w' x x'
/-- Mac tells the key first. -/
def PMTells (w : World) (R : Nat) (s : Rn) (oa : Option Addr) (oc : Nat) (x : PN) (w' : World) (e : Ending) (t : Int × List UInt8 × Int) : Prop := ∃ d cd x', e = .returned (.tuple #[.slice d t.2.1.length cd, .int .i64 t.1, .int .i64 t.2.2]) ∧ Sees w' d cd t.2.1 ∧ PNAll w' R s oa oc x' ∧ Later R w w' x x'
theorem PNAll.at' {w : World} {R : Nat} {s : Rn} {oa : Option Addr} {oc : Nat} {x : PN} (h : PNAll w R s oa oc x) : ∃ v0 v1 v2 v3 K, PNAt w R s oa oc v0 v1 v2 v3 K := by
  cases h with
  | idle h ho h0 hx => exact ⟨_, _, _, _, _, h⟩
  | begun h h0 => exact ⟨_, _, _, _, _, h.at'⟩
theorem PNAll.below {w w' : World} {R : Nat} {s : Rn} {oa : Option Addr} {oc : Nat} {x : PN} (h : PNAll w R s oa oc x) (hb : Below w.heap.size w w') : PNAll w' R s oa oc x := by
  cases h with
  | idle h ho h0 hx => exact .idle ((hb.block R h.lt).trans h) (ho.below hb) h0 hx
  | begun h h0 => exact .begun (h.below hb) h0
theorem PNAll.own {w : World} {R : Nat} {s : Rn} {oa : Option Addr} {oc : Nat} {x : PN} (h : PNAll w R s oa oc x) : Sees w oa oc s.own := by
  cases h with
  | idle h ho h0 hx => exact ho
  | begun h h0 => exact h.own
theorem PNAll.gr {w : World} {R : Nat} {s : Rn} {oa : Option Addr} {oc : Nat} {x : PN} (h : PNAll w R s oa oc x) (h0 : ¬ s.ep < 0) : Gr w R s oa oc x.q x.L.length x.kc x := by
  cases h with
  | idle h ho h1 hx => exact absurd (by omega) h0
  | begun h h1 => exact h
theorem PNAll.cells {w : World} {R : Nat} {s : Rn} {oa : Option Addr} {oc : Nat} {x : PN} (h : PNAll w R s oa oc x) (hok : s.ok) : w.cell? ⟨R, 10, none⟩ = some (.slice oa 16 oc) ∧ w.cell? ⟨R, 11, none⟩ = some (.int .i64 s.sl) ∧ w.cell? ⟨R, 12, none⟩ = some (.int .i64 s.ep) ∧ w.cell? ⟨R, 13, none⟩ = some (.int .i64 s.st) ∧ (Instr.loadAt 23 (.pointer (some ⟨R, 0, none⟩))).run Tryz.prog w = .ok (.agg (cfC s.c)) w := by
  obtain ⟨v0, v1, v2, v3, K, h⟩ := h.at'
  refine ⟨?_, h.cell 11 rfl, h.cell 12 rfl, h.cell 13 rfl, h.loads⟩
  have := h.cell 10 (u := .slice oa s.own.length oc) rfl
  rw [hok.own] at this
  exact this
theorem Later.of_below {R : Nat} {w w' : World} {x : PN} (hb : Below w.heap.size w w') : Later R w w' x x := ⟨Apart.of_below hb, .inl rfl, .inl rfl⟩

set_option maxHeartbeats 1600000 in
theorem pmac_any (w : World) (R : Nat) (s : Rn) (oa : Option Addr) (oc : Nat) (x : PN) (h : PNAll w R s oa oc x) (hok : s.ok) (r : Int) (hF : FTab w) (hT : KTab w) :
    Calls Tryz.prog 9 #[.pointer (some ⟨R, 0, none⟩), .int .i64 r] w fun e w' => PMTells w R s oa oc x w' e (s.mac r) := by
  obtain ⟨c10, _, c12, _, _⟩ := h.cells hok
  have KB := nbegun_at w R oa oc s.ep c10 c12
  by_cases h0 : s.ep < 0
  · rw [show s.mac r = (0, [], 5) from if_pos h0]
    rw [if_pos (show s.ep = -1 by rcases hok.ep with h | h <;> omega)] at KB
    have HA : Hid (PNAll w R s oa oc x) := h
    clear h hok c10 c12 hF hT
    go_enter Tryz.func9, Tryz.ntmps9
    go_wp2_with fail
    refine KB.mono ?_
    rintro ev w1 ⟨rfl, rfl⟩
    clear KB
    go_wp2
    go_ret3
    exact ⟨none, 0, x, rfl, Sees.nil' _, HA.out, Later.of_below (Below.refl _ _)⟩
  · rw [show s.mac r = s.tell (idxP s.c s.st r) from if_neg h0]
    rw [if_neg (show ¬ s.ep = -1 by omega)] at KB
    have hk := nkeys hok.cfg
    have K1 := dindex_ok w.drew s.c s.st r
    rw [idxV_eq] at K1
    obtain ⟨p, hp⟩ : ∃ p, p = idxP s.c s.st r := ⟨_, rfl⟩
    have hp2 : p.2 = 0 → 0 ≤ p.1 ∧ p.1 ≤ s.c.k := fun h2 => by
      rw [hp] at h2 ⊢
      obtain ⟨_, b1, b2, b3⟩ := idxP_in h2
      rw [b3]
      omega
    rw [← hp] at K1 ⊢
    have HN : Hid (PNAll w R s oa oc x ∧ s.ok ∧ ¬ s.ep < 0 ∧ FTab w ∧ KTab w ∧ (p.2 = 0 → 0 ≤ p.1 ∧ p.1 ≤ s.c.k)) := ⟨h, hok, h0, hF, hT, hp2⟩
    have HQ : Hid (∀ V, Below w.heap.size w V → ((Instr.loadAt 23 (.pointer (some ⟨R, 0, none⟩))).run Tryz.prog V = .ok (.agg (cfC s.c)) V ∧ V.cell? ⟨R, 13, none⟩ = some (.int .i64 s.st))) := fun V hb => ⟨((HN.out.1.below hb).cells HN.out.2.1).2.2.2.2, ((HN.out.1.below hb).cells HN.out.2.1).2.2.2.1⟩
    have hS0 := HQ.out w.drew (Below.refl _ _).drew
    obtain ⟨p1, p2⟩ := p
    dsimp only at K1
    clear h hok hk hp hp2 hF hT c10 c12 h0
    go_enter Tryz.func9, Tryz.ntmps9
    go_wp2_with fail
    refine KB.mono ?_
    rintro ev w1 ⟨rfl, rfl⟩
    clear KB
    go_wp2_with fail
    refine wp_region_noPanic ?_
    refine wp_region_held (S := fun V => (Instr.loadAt 23 (.pointer (some ⟨R, 0, none⟩))).run Tryz.prog V = .ok (.agg (cfC s.c)) V ∧ V.cell? ⟨R, 13, none⟩ = some (.int .i64 s.st)) (by kernel_rfl) ?_
    have hS := hS0
    refine any_take 0 ?vrmn1 rfl (by kernel_rfl) (by kernel_rfl) (by kernel_rfl) (fun _ _ _ h => h) (by rfl) ?hrmn1 hS ?_
    case hrmn1 => (intro w hSw; (try dsimp only at hSw); go_split_ands; go_simp; (try with_reducible rfl))
    (try simp only [Act.put, List.setIfInBounds_toArray, List.set_cons_zero, List.set_cons_succ])
    refine any_take 1 ?vrmn2 rfl (by kernel_rfl) (by kernel_rfl) (by kernel_rfl) (fun _ _ _ h => h) (by rfl) ?hrmn2 hS ?_
    case hrmn2 => (intro w hSw; (try dsimp only at hSw); go_split_ands; go_simp; (try with_reducible rfl))
    (try simp only [Act.put, List.setIfInBounds_toArray, List.set_cons_zero, List.set_cons_succ])
    refine any_take 2 ?vrmn3 rfl (by kernel_rfl) (by kernel_rfl) (by kernel_rfl) (fun _ _ _ h => h) (by rfl) ?hrmn3 hS ?_
    case hrmn3 => (intro w hSw; (try dsimp only at hSw); go_split_ands; go_simp; (try with_reducible rfl))
    (try simp only [Act.put, List.setIfInBounds_toArray, List.set_cons_zero, List.set_cons_succ])
    refine any_take 3 (Value.agg (cfC s.c)) rfl (by kernel_rfl) (by kernel_rfl) (by kernel_rfl) (fun _ _ _ h => h) (by rfl) (fun W hW => exec_load 23 (.tmp 18) rfl _ _ rfl hW.1) hS ?_
    (try simp only [Act.put, List.setIfInBounds_toArray, List.set_cons_zero, List.set_cons_succ])
    refine any_take 4 ?vrmn4 rfl (by kernel_rfl) (by kernel_rfl) (by kernel_rfl) (fun _ _ _ h => h) (by rfl) ?hrmn4 hS ?_
    case hrmn4 => (intro w hSw; (try dsimp only at hSw); go_split_ands; go_simp; (try with_reducible rfl))
    (try simp only [Act.put, List.setIfInBounds_toArray, List.set_cons_zero, List.set_cons_succ])
    refine any_take 5 ?vrmn5 rfl (by kernel_rfl) (by kernel_rfl) (by kernel_rfl) (fun _ _ _ h => h) (by rfl) ?hrmn5 hS ?_
    case hrmn5 => (intro w hSw; (try dsimp only at hSw); go_split_ands; go_simp; (try with_reducible rfl))
    (try simp only [Act.put, List.setIfInBounds_toArray, List.set_cons_zero, List.set_cons_succ])
    refine any_take 6 ?vrmn6 rfl (by kernel_rfl) (by kernel_rfl) (by kernel_rfl) (fun _ _ _ h => h) (by rfl) ?hrmn6 hS ?_
    case hrmn6 => (intro w hSw; (try dsimp only at hSw); go_split_ands; go_simp; (try with_reducible rfl))
    (try simp only [Act.put, List.setIfInBounds_toArray, List.set_cons_zero, List.set_cons_succ])
    refine any_take 7 ?vrmn7 rfl (by kernel_rfl) (by kernel_rfl) (by kernel_rfl) (fun _ _ _ h => h) (by rfl) ?hrmn7 hS ?_
    case hrmn7 => (intro w hSw; (try dsimp only at hSw); go_split_ands; go_simp; (try with_reducible rfl))
    (try simp only [Act.put, List.setIfInBounds_toArray, List.set_cons_zero, List.set_cons_succ])
    refine any_take 8 ?vrmn8 rfl (by kernel_rfl) (by kernel_rfl) (by kernel_rfl) (fun _ _ _ h => h) (by rfl) ?hrmn8 hS ?_
    case hrmn8 => (intro w hSw; (try dsimp only at hSw); go_split_ands; go_simp; (try with_reducible rfl))
    (try simp only [Act.put, List.setIfInBounds_toArray, List.set_cons_zero, List.set_cons_succ])
    refine any_one 9 rfl (by kernel_rfl) (by rfl) (fun K hK => ?_)
    clear hS
    go_simp
    refine K1.mono ?_
    rintro ev w2 ⟨rfl, hb1⟩
    have HB1 : Hid (Below w1.heap.size w1 w2) := (Below.refl _ _).drew.trans hb1
    have HQ1 := HQ.out w2 HB1.out
    clear hb1 K1
    refine hK.out _ _ (HQ1) (fun hS => ?_)
    clear hK
    (try simp only [Act.put, List.setIfInBounds_toArray, List.set_cons_zero, List.set_cons_succ])
    refine any_take 10 ?vrmn9 rfl (by kernel_rfl) (by kernel_rfl) (by kernel_rfl) (fun _ _ _ h => h) (by rfl) ?hrmn9 hS ?_
    case hrmn9 => (intro w hSw; (try dsimp only at hSw); go_split_ands; go_simp; (try with_reducible rfl))
    (try simp only [Act.put, List.setIfInBounds_toArray, List.set_cons_zero, List.set_cons_succ])
    refine any_take 11 ?vrmn10 rfl (by kernel_rfl) (by kernel_rfl) (by kernel_rfl) (fun _ _ _ h => h) (by rfl) ?hrmn10 hS ?_
    case hrmn10 => (intro w hSw; (try dsimp only at hSw); go_split_ands; go_simp; (try with_reducible rfl))
    (try simp only [Act.put, List.setIfInBounds_toArray, List.set_cons_zero, List.set_cons_succ])
    refine any_take 12 ?vrmn11 rfl (by kernel_rfl) (by kernel_rfl) (by kernel_rfl) (fun _ _ _ h => h) (by rfl) ?hrmn11 hS ?_
    case hrmn11 => (intro w hSw; (try dsimp only at hSw); go_split_ands; go_simp; (try with_reducible rfl))
    (try simp only [Act.put, List.setIfInBounds_toArray, List.set_cons_zero, List.set_cons_succ])
    refine any_take 13 ?vrmn12 rfl (by kernel_rfl) (by kernel_rfl) (by kernel_rfl) (fun _ _ _ h => h) (by rfl) ?hrmn12 hS ?_
    case hrmn12 => (intro w hSw; (try dsimp only at hSw); go_split_ands; go_simp; (try with_reducible rfl))
    (try simp only [Act.put, List.setIfInBounds_toArray, List.set_cons_zero, List.set_cons_succ])
    refine any_take 14 ?vrmn13 rfl (by kernel_rfl) (by kernel_rfl) (by kernel_rfl) (fun _ _ _ h => h) (by rfl) ?hrmn13 hS ?_
    case hrmn13 => (intro w hSw; (try dsimp only at hSw); go_split_ands; go_simp; (try with_reducible rfl))
    (try simp only [Act.put, List.setIfInBounds_toArray, List.set_cons_zero, List.set_cons_succ])
    refine wpAnyH_done (by kernel_rfl) ?_ _
    refine NoPanic.normal ?_
    clear hS hS0 HQ1 HQ
    by_cases h2 : p2 = 0
    · subst h2
      obtain ⟨q1, q2⟩ := HN.out.2.2.2.2.2 rfl
      obtain ⟨i, rfl⟩ : ∃ i : Nat, p1 = (i : Int) := ⟨p1.toNat, by omega⟩
      have K2 := pkey_ok w2 R s oa oc x ((HN.out.1.gr (by have := HN.out.2.2.1; omega)).below HB1.out) i (by omega) (HN.out.2.2.2.1.below HB1.out) (HN.out.2.2.2.2.1.below HB1.out)
      clear q1 q2
      go_wp2_with fail
      refine K2.mono ?_
      rintro ev w3 ⟨d, cd, x', rfl, hs, hG, hl⟩
      have HE : Hid (Sees w3 d cd (s.key i) ∧ PNAll w3 R s oa oc x' ∧ Later R w1 w3 x x') := ⟨hs, .begun hG (by have := HN.out.2.2.1; omega), (Later.of_below HB1.out).trans hl⟩
      clear K2 hs hG hl
      go_wp2
      go_ret3
      refine ⟨d, cd, x', ?_, HE.out⟩
      show _ = Ending.returned (.tuple #[.slice d (s.key i).length cd, .int .i64 (i : Int), .int .i64 0])
      rw [Rn.key_len]
      rfl
    · have HE : Hid (s.tell (p1, p2) = (0, [], p2) ∧ PNAll w2 R s oa oc x ∧ Later R w1 w2 x x) := ⟨if_neg h2, HN.out.1.below HB1.out, Later.of_below HB1.out⟩
      go_wp2
      go_ret3
      rw [HE.out.1]
      exact ⟨none, 0, x, rfl, Sees.nil' _, HE.out.2⟩

set_option maxHeartbeats 1600000 in
theorem ptold_any (w : World) (R : Nat) (s : Rn) (oa : Option Addr) (oc : Nat) (x : PN) (h : PNAll w R s oa oc x) (hok : s.ok) (r : Int) (hF : FTab w) (hT : KTab w) :
    Calls Tryz.prog 11 #[.pointer (some ⟨R, 0, none⟩), .int .i64 r] w fun e w' => PTells w R s oa oc x w' e (s.told r) := by
  obtain ⟨c10, _, c12, _, _⟩ := h.cells hok
  have KB := nbegun_at w R oa oc s.ep c10 c12
  by_cases h0 : s.ep < 0
  · rw [show s.told r = (0, [], 5) from if_pos h0]
    rw [if_pos (show s.ep = -1 by rcases hok.ep with h | h <;> omega)] at KB
    have HA : Hid (PNAll w R s oa oc x) := h
    clear h hok c10 c12 hF hT
    go_enter Tryz.func11, Tryz.ntmps11
    go_wp2_with fail
    refine KB.mono ?_
    rintro ev w1 ⟨rfl, rfl⟩
    clear KB
    go_wp2
    go_ret3
    exact ⟨none, 0, x, rfl, Sees.nil' _, HA.out, Later.of_below (Below.refl _ _)⟩
  · rw [show s.told r = s.tell (tolP s.c s.st r) from if_neg h0]
    rw [if_neg (show ¬ s.ep = -1 by omega)] at KB
    have hk := nkeys hok.cfg
    have K1 := told_ok w.drew s.c s.st r
    rw [tolV_eq] at K1
    obtain ⟨p, hp⟩ : ∃ p, p = tolP s.c s.st r := ⟨_, rfl⟩
    have hp2 : p.2 = 0 → 0 ≤ p.1 ∧ p.1 ≤ s.c.k := fun h2 => by
      rw [hp] at h2 ⊢
      obtain ⟨_, b1, b3⟩ := tolP_in h2
      rw [b3]
      have := tolN_in hok.cfg (r - s.st); omega
    rw [← hp] at K1 ⊢
    have HN : Hid (PNAll w R s oa oc x ∧ s.ok ∧ ¬ s.ep < 0 ∧ FTab w ∧ KTab w ∧ (p.2 = 0 → 0 ≤ p.1 ∧ p.1 ≤ s.c.k)) := ⟨h, hok, h0, hF, hT, hp2⟩
    have HQ : Hid (∀ V, Below w.heap.size w V → ((Instr.loadAt 23 (.pointer (some ⟨R, 0, none⟩))).run Tryz.prog V = .ok (.agg (cfC s.c)) V ∧ V.cell? ⟨R, 13, none⟩ = some (.int .i64 s.st))) := fun V hb => ⟨((HN.out.1.below hb).cells HN.out.2.1).2.2.2.2, ((HN.out.1.below hb).cells HN.out.2.1).2.2.2.1⟩
    have hS0 := HQ.out w.drew (Below.refl _ _).drew
    obtain ⟨p1, p2⟩ := p
    dsimp only at K1
    clear h hok hk hp hp2 hF hT c10 c12 h0
    go_enter Tryz.func11, Tryz.ntmps11
    go_wp2_with fail
    refine KB.mono ?_
    rintro ev w1 ⟨rfl, rfl⟩
    clear KB
    go_wp2_with fail
    refine wp_region_noPanic ?_
    refine wp_region_held (S := fun V => (Instr.loadAt 23 (.pointer (some ⟨R, 0, none⟩))).run Tryz.prog V = .ok (.agg (cfC s.c)) V ∧ V.cell? ⟨R, 13, none⟩ = some (.int .i64 s.st)) (by kernel_rfl) ?_
    have hS := hS0
    refine any_take 0 ?vrmn1 rfl (by kernel_rfl) (by kernel_rfl) (by kernel_rfl) (fun _ _ _ h => h) (by rfl) ?hrmn1 hS ?_
    case hrmn1 => (intro w hSw; (try dsimp only at hSw); go_split_ands; go_simp; (try with_reducible rfl))
    (try simp only [Act.put, List.setIfInBounds_toArray, List.set_cons_zero, List.set_cons_succ])
    refine any_take 1 ?vrmn2 rfl (by kernel_rfl) (by kernel_rfl) (by kernel_rfl) (fun _ _ _ h => h) (by rfl) ?hrmn2 hS ?_
    case hrmn2 => (intro w hSw; (try dsimp only at hSw); go_split_ands; go_simp; (try with_reducible rfl))
    (try simp only [Act.put, List.setIfInBounds_toArray, List.set_cons_zero, List.set_cons_succ])
    refine any_take 2 ?vrmn3 rfl (by kernel_rfl) (by kernel_rfl) (by kernel_rfl) (fun _ _ _ h => h) (by rfl) ?hrmn3 hS ?_
    case hrmn3 => (intro w hSw; (try dsimp only at hSw); go_split_ands; go_simp; (try with_reducible rfl))
    (try simp only [Act.put, List.setIfInBounds_toArray, List.set_cons_zero, List.set_cons_succ])
    refine any_take 3 (Value.agg (cfC s.c)) rfl (by kernel_rfl) (by kernel_rfl) (by kernel_rfl) (fun _ _ _ h => h) (by rfl) (fun W hW => exec_load 23 (.tmp 18) rfl _ _ rfl hW.1) hS ?_
    (try simp only [Act.put, List.setIfInBounds_toArray, List.set_cons_zero, List.set_cons_succ])
    refine any_take 4 ?vrmn4 rfl (by kernel_rfl) (by kernel_rfl) (by kernel_rfl) (fun _ _ _ h => h) (by rfl) ?hrmn4 hS ?_
    case hrmn4 => (intro w hSw; (try dsimp only at hSw); go_split_ands; go_simp; (try with_reducible rfl))
    (try simp only [Act.put, List.setIfInBounds_toArray, List.set_cons_zero, List.set_cons_succ])
    refine any_take 5 ?vrmn5 rfl (by kernel_rfl) (by kernel_rfl) (by kernel_rfl) (fun _ _ _ h => h) (by rfl) ?hrmn5 hS ?_
    case hrmn5 => (intro w hSw; (try dsimp only at hSw); go_split_ands; go_simp; (try with_reducible rfl))
    (try simp only [Act.put, List.setIfInBounds_toArray, List.set_cons_zero, List.set_cons_succ])
    refine any_take 6 ?vrmn6 rfl (by kernel_rfl) (by kernel_rfl) (by kernel_rfl) (fun _ _ _ h => h) (by rfl) ?hrmn6 hS ?_
    case hrmn6 => (intro w hSw; (try dsimp only at hSw); go_split_ands; go_simp; (try with_reducible rfl))
    (try simp only [Act.put, List.setIfInBounds_toArray, List.set_cons_zero, List.set_cons_succ])
    refine any_take 7 ?vrmn7 rfl (by kernel_rfl) (by kernel_rfl) (by kernel_rfl) (fun _ _ _ h => h) (by rfl) ?hrmn7 hS ?_
    case hrmn7 => (intro w hSw; (try dsimp only at hSw); go_split_ands; go_simp; (try with_reducible rfl))
    (try simp only [Act.put, List.setIfInBounds_toArray, List.set_cons_zero, List.set_cons_succ])
    refine any_take 8 ?vrmn8 rfl (by kernel_rfl) (by kernel_rfl) (by kernel_rfl) (fun _ _ _ h => h) (by rfl) ?hrmn8 hS ?_
    case hrmn8 => (intro w hSw; (try dsimp only at hSw); go_split_ands; go_simp; (try with_reducible rfl))
    (try simp only [Act.put, List.setIfInBounds_toArray, List.set_cons_zero, List.set_cons_succ])
    refine any_one 9 rfl (by kernel_rfl) (by rfl) (fun K hK => ?_)
    clear hS
    go_simp
    refine K1.mono ?_
    rintro ev w2 ⟨rfl, hb1⟩
    have HB1 : Hid (Below w1.heap.size w1 w2) := (Below.refl _ _).drew.trans hb1
    have HQ1 := HQ.out w2 HB1.out
    clear hb1 K1
    refine hK.out _ _ (HQ1) (fun hS => ?_)
    clear hK
    (try simp only [Act.put, List.setIfInBounds_toArray, List.set_cons_zero, List.set_cons_succ])
    refine any_take 10 ?vrmn9 rfl (by kernel_rfl) (by kernel_rfl) (by kernel_rfl) (fun _ _ _ h => h) (by rfl) ?hrmn9 hS ?_
    case hrmn9 => (intro w hSw; (try dsimp only at hSw); go_split_ands; go_simp; (try with_reducible rfl))
    (try simp only [Act.put, List.setIfInBounds_toArray, List.set_cons_zero, List.set_cons_succ])
    refine any_take 11 ?vrmn10 rfl (by kernel_rfl) (by kernel_rfl) (by kernel_rfl) (fun _ _ _ h => h) (by rfl) ?hrmn10 hS ?_
    case hrmn10 => (intro w hSw; (try dsimp only at hSw); go_split_ands; go_simp; (try with_reducible rfl))
    (try simp only [Act.put, List.setIfInBounds_toArray, List.set_cons_zero, List.set_cons_succ])
    refine any_take 12 ?vrmn11 rfl (by kernel_rfl) (by kernel_rfl) (by kernel_rfl) (fun _ _ _ h => h) (by rfl) ?hrmn11 hS ?_
    case hrmn11 => (intro w hSw; (try dsimp only at hSw); go_split_ands; go_simp; (try with_reducible rfl))
    (try simp only [Act.put, List.setIfInBounds_toArray, List.set_cons_zero, List.set_cons_succ])
    refine any_take 13 ?vrmn12 rfl (by kernel_rfl) (by kernel_rfl) (by kernel_rfl) (fun _ _ _ h => h) (by rfl) ?hrmn12 hS ?_
    case hrmn12 => (intro w hSw; (try dsimp only at hSw); go_split_ands; go_simp; (try with_reducible rfl))
    (try simp only [Act.put, List.setIfInBounds_toArray, List.set_cons_zero, List.set_cons_succ])
    refine any_take 14 ?vrmn13 rfl (by kernel_rfl) (by kernel_rfl) (by kernel_rfl) (fun _ _ _ h => h) (by rfl) ?hrmn13 hS ?_
    case hrmn13 => (intro w hSw; (try dsimp only at hSw); go_split_ands; go_simp; (try with_reducible rfl))
    (try simp only [Act.put, List.setIfInBounds_toArray, List.set_cons_zero, List.set_cons_succ])
    refine wpAnyH_done (by kernel_rfl) ?_ _
    refine NoPanic.normal ?_
    clear hS hS0 HQ1 HQ
    by_cases h2 : p2 = 0
    · subst h2
      obtain ⟨q1, q2⟩ := HN.out.2.2.2.2.2 rfl
      obtain ⟨i, rfl⟩ : ∃ i : Nat, p1 = (i : Int) := ⟨p1.toNat, by omega⟩
      have K2 := pkey_ok w2 R s oa oc x ((HN.out.1.gr (by have := HN.out.2.2.1; omega)).below HB1.out) i (by omega) (HN.out.2.2.2.1.below HB1.out) (HN.out.2.2.2.2.1.below HB1.out)
      clear q1 q2
      go_wp2_with fail
      refine K2.mono ?_
      rintro ev w3 ⟨d, cd, x', rfl, hs, hG, hl⟩
      have HE : Hid (Sees w3 d cd (s.key i) ∧ PNAll w3 R s oa oc x' ∧ Later R w1 w3 x x') := ⟨hs, .begun hG (by have := HN.out.2.2.1; omega), (Later.of_below HB1.out).trans hl⟩
      clear K2 hs hG hl
      go_wp2
      go_ret3
      refine ⟨d, cd, x', ?_, HE.out⟩
      show _ = Ending.returned (.tuple #[.int .i64 (i : Int), .slice d (s.key i).length cd, .int .i64 0])
      rw [Rn.key_len]
      rfl
    · have HE : Hid (s.tell (p1, p2) = (0, [], p2) ∧ PNAll w2 R s oa oc x ∧ Later R w1 w2 x x) := ⟨if_neg h2, HN.out.1.below HB1.out, Later.of_below HB1.out⟩
      go_wp2
      go_ret3
      rw [HE.out.1]
      exact ⟨none, 0, x, rfl, Sees.nil' _, HE.out.2⟩

set_option maxHeartbeats 1600000 in
theorem pknown_no (w : World) (R : Nat) (s : Rn) (oa : Option Addr) (oc : Nat) (x : PN) (h : PNAll w R s oa oc x) (hok : s.ok) (h0 : s.ep < 0) (now : Int) :
    Calls Tryz.prog 13 #[.pointer (some ⟨R, 0, none⟩), .int .i64 now] w fun e w' => PTells w R s oa oc x w' e (0, [], 5) := by
  obtain ⟨c10, _, c12, _, _⟩ := h.cells hok
  have KB := nbegun_at w R oa oc s.ep c10 c12
  rw [if_pos (show s.ep = -1 by rcases hok.ep with h | h <;> omega)] at KB
  have HA : Hid (PNAll w R s oa oc x) := h
  clear h hok c10 c12
  go_enter Tryz.func13, Tryz.ntmps13
  go_wp2_with fail
  refine KB.mono ?_
  rintro ev w1 ⟨rfl, rfl⟩
  clear KB
  go_wp2
  go_ret3
  exact ⟨none, 0, x, rfl, Sees.nil' _, HA.out, Later.of_below (Below.refl _ _)⟩
set_option maxHeartbeats 1600000 in
theorem pknown_ok (w : World) (R : Nat) (s : Rn) (oa : Option Addr) (oc : Nat) (x : PN) (h : PNAll w R s oa oc x) (hok : s.ok) (h0 : ¬ s.ep < 0) (now : Int) (hF : FTab w) (hT : KTab w) :
    Calls Tryz.prog 13 #[.pointer (some ⟨R, 0, none⟩), .int .i64 now] w fun e w' => ∃ p, KnIs s now p ∧ PTells w R s oa oc x w' e (s.tell p) := by
  obtain ⟨c10, _, c12, _, _⟩ := h.cells hok
  have KB := nbegun_at w R oa oc s.ep c10 c12
  rw [if_neg (show ¬ s.ep = -1 by omega)] at KB
  have hk := nkeys hok.cfg
  have HN : Hid (PNAll w R s oa oc x ∧ s.ok ∧ ¬ s.ep < 0 ∧ FTab w ∧ KTab w ∧ (∀ p, KnIs s now p → p.2 = 0 → 0 ≤ p.1 ∧ p.1 ≤ s.c.k)) := ⟨h, hok, h0, hF, hT, fun p hp h2 => by
    rcases hp with ⟨_, rfl⟩ | ⟨_, _, hp⟩
    · cases h2
    · have := hp.lo; have := hp.hi; omega⟩
  have HQ : Hid (∀ V, Below w.heap.size w V → ((Instr.loadAt 23 (.pointer (some ⟨R, 0, none⟩))).run Tryz.prog V = .ok (.agg (cfC s.c)) V ∧ V.cell? ⟨R, 13, none⟩ = some (.int .i64 s.st) ∧ V.cell? ⟨R, 11, none⟩ = some (.int .i64 s.sl))) := fun V hb => ⟨((HN.out.1.below hb).cells HN.out.2.1).2.2.2.2, ((HN.out.1.below hb).cells HN.out.2.1).2.2.2.1, ((HN.out.1.below hb).cells HN.out.2.1).2.1⟩
  have hS0 := HQ.out w.drew (Below.refl _ _).drew
  have K2 : Calls Tryz.prog 36 #[.agg (cfC s.c), .int .i64 s.sl, .int .i64 s.st, .int .i64 now] w.drew fun e w' => ∃ p1 p2 : Int, e = .returned (.tuple #[.int .i64 p1, .int .i64 p2]) ∧ KnIs s now (p1, p2) ∧ Below w.drew.heap.size w.drew w' := (known_ok w.drew s.c s.sl s.st now).mono fun e w' hh => by
    obtain ⟨hh, hb⟩ := hh
    rcases hh with ⟨h1, rfl⟩ | ⟨h1, n, rfl, h2⟩
    · exact ⟨0, 1, rfl, .inl ⟨h1, rfl⟩, hb⟩
    · exact ⟨n, 0, rfl, .inr ⟨h1, rfl, h2⟩, hb⟩
  clear h hok hk hF hT c10 c12 h0
  go_enter Tryz.func13, Tryz.ntmps13
  go_wp2_with fail
  refine KB.mono ?_
  rintro ev w1 ⟨rfl, rfl⟩
  clear KB
  go_wp2_with fail
  refine wp_region_noPanic ?_
  refine wp_region_held (S := fun V => (Instr.loadAt 23 (.pointer (some ⟨R, 0, none⟩))).run Tryz.prog V = .ok (.agg (cfC s.c)) V ∧ V.cell? ⟨R, 13, none⟩ = some (.int .i64 s.st) ∧ V.cell? ⟨R, 11, none⟩ = some (.int .i64 s.sl)) (by kernel_rfl) ?_
  have hS := hS0
  refine any_take 0 ?vrkn1 rfl (by kernel_rfl) (by kernel_rfl) (by kernel_rfl) (fun _ _ _ h => h) (by rfl) ?hrkn1 hS ?_
  case hrkn1 => (intro w hSw; (try dsimp only at hSw); go_split_ands; go_simp; (try with_reducible rfl))
  (try simp only [Act.put, List.setIfInBounds_toArray, List.set_cons_zero, List.set_cons_succ])
  refine any_take 1 ?vrkn2 rfl (by kernel_rfl) (by kernel_rfl) (by kernel_rfl) (fun _ _ _ h => h) (by rfl) ?hrkn2 hS ?_
  case hrkn2 => (intro w hSw; (try dsimp only at hSw); go_split_ands; go_simp; (try with_reducible rfl))
  (try simp only [Act.put, List.setIfInBounds_toArray, List.set_cons_zero, List.set_cons_succ])
  refine any_take 2 ?vrkn3 rfl (by kernel_rfl) (by kernel_rfl) (by kernel_rfl) (fun _ _ _ h => h) (by rfl) ?hrkn3 hS ?_
  case hrkn3 => (intro w hSw; (try dsimp only at hSw); go_split_ands; go_simp; (try with_reducible rfl))
  (try simp only [Act.put, List.setIfInBounds_toArray, List.set_cons_zero, List.set_cons_succ])
  refine any_take 3 (Value.agg (cfC s.c)) rfl (by kernel_rfl) (by kernel_rfl) (by kernel_rfl) (fun _ _ _ h => h) (by rfl) (fun W hW => exec_load 23 (.tmp 18) rfl _ _ rfl hW.1) hS ?_
  (try simp only [Act.put, List.setIfInBounds_toArray, List.set_cons_zero, List.set_cons_succ])
  refine any_take 4 ?vrkn4 rfl (by kernel_rfl) (by kernel_rfl) (by kernel_rfl) (fun _ _ _ h => h) (by rfl) ?hrkn4 hS ?_
  case hrkn4 => (intro w hSw; (try dsimp only at hSw); go_split_ands; go_simp; (try with_reducible rfl))
  (try simp only [Act.put, List.setIfInBounds_toArray, List.set_cons_zero, List.set_cons_succ])
  refine any_take 5 ?vrkn5 rfl (by kernel_rfl) (by kernel_rfl) (by kernel_rfl) (fun _ _ _ h => h) (by rfl) ?hrkn5 hS ?_
  case hrkn5 => (intro w hSw; (try dsimp only at hSw); go_split_ands; go_simp; (try with_reducible rfl))
  (try simp only [Act.put, List.setIfInBounds_toArray, List.set_cons_zero, List.set_cons_succ])
  refine any_take 6 ?vrkn6 rfl (by kernel_rfl) (by kernel_rfl) (by kernel_rfl) (fun _ _ _ h => h) (by rfl) ?hrkn6 hS ?_
  case hrkn6 => (intro w hSw; (try dsimp only at hSw); go_split_ands; go_simp; (try with_reducible rfl))
  (try simp only [Act.put, List.setIfInBounds_toArray, List.set_cons_zero, List.set_cons_succ])
  refine any_take 7 ?vrkn7 rfl (by kernel_rfl) (by kernel_rfl) (by kernel_rfl) (fun _ _ _ h => h) (by rfl) ?hrkn7 hS ?_
  case hrkn7 => (intro w hSw; (try dsimp only at hSw); go_split_ands; go_simp; (try with_reducible rfl))
  (try simp only [Act.put, List.setIfInBounds_toArray, List.set_cons_zero, List.set_cons_succ])
  refine any_take 8 ?vrkn8 rfl (by kernel_rfl) (by kernel_rfl) (by kernel_rfl) (fun _ _ _ h => h) (by rfl) ?hrkn8 hS ?_
  case hrkn8 => (intro w hSw; (try dsimp only at hSw); go_split_ands; go_simp; (try with_reducible rfl))
  (try simp only [Act.put, List.setIfInBounds_toArray, List.set_cons_zero, List.set_cons_succ])
  refine any_take 9 ?vrkn9 rfl (by kernel_rfl) (by kernel_rfl) (by kernel_rfl) (fun _ _ _ h => h) (by rfl) ?hrkn9 hS ?_
  case hrkn9 => (intro w hSw; (try dsimp only at hSw); go_split_ands; go_simp; (try with_reducible rfl))
  (try simp only [Act.put, List.setIfInBounds_toArray, List.set_cons_zero, List.set_cons_succ])
  refine any_take 10 ?vrkn10 rfl (by kernel_rfl) (by kernel_rfl) (by kernel_rfl) (fun _ _ _ h => h) (by rfl) ?hrkn10 hS ?_
  case hrkn10 => (intro w hSw; (try dsimp only at hSw); go_split_ands; go_simp; (try with_reducible rfl))
  (try simp only [Act.put, List.setIfInBounds_toArray, List.set_cons_zero, List.set_cons_succ])
  refine any_take 11 ?vrkn11 rfl (by kernel_rfl) (by kernel_rfl) (by kernel_rfl) (fun _ _ _ h => h) (by rfl) ?hrkn11 hS ?_
  case hrkn11 => (intro w hSw; (try dsimp only at hSw); go_split_ands; go_simp; (try with_reducible rfl))
  (try simp only [Act.put, List.setIfInBounds_toArray, List.set_cons_zero, List.set_cons_succ])
  refine any_take 12 ?vrkn12 rfl (by kernel_rfl) (by kernel_rfl) (by kernel_rfl) (fun _ _ _ h => h) (by rfl) ?hrkn12 hS ?_
  case hrkn12 => (intro w hSw; (try dsimp only at hSw); go_split_ands; go_simp; (try with_reducible rfl))
  (try simp only [Act.put, List.setIfInBounds_toArray, List.set_cons_zero, List.set_cons_succ])
  refine any_one 13 rfl (by kernel_rfl) (by rfl) (fun K hK => ?_)
  clear hS
  go_simp
  refine K2.mono ?_
  rintro ev w2 ⟨p1, p2, rfl, hkn, hb1⟩
  have HB1 : Hid (Below w1.heap.size w1 w2) := (Below.refl _ _).drew.trans hb1
  have HKN : Hid (KnIs s now (p1, p2)) := hkn
  have HQ1 := HQ.out w2 HB1.out
  clear hb1 hkn K2
  refine hK.out _ _ (HQ1) (fun hS => ?_)
  clear hK
  (try simp only [Act.put, List.setIfInBounds_toArray, List.set_cons_zero, List.set_cons_succ])
  refine any_take 14 ?vrkn13 rfl (by kernel_rfl) (by kernel_rfl) (by kernel_rfl) (fun _ _ _ h => h) (by rfl) ?hrkn13 hS ?_
  case hrkn13 => (intro w hSw; (try dsimp only at hSw); go_split_ands; go_simp; (try with_reducible rfl))
  (try simp only [Act.put, List.setIfInBounds_toArray, List.set_cons_zero, List.set_cons_succ])
  refine any_take 15 ?vrkn14 rfl (by kernel_rfl) (by kernel_rfl) (by kernel_rfl) (fun _ _ _ h => h) (by rfl) ?hrkn14 hS ?_
  case hrkn14 => (intro w hSw; (try dsimp only at hSw); go_split_ands; go_simp; (try with_reducible rfl))
  (try simp only [Act.put, List.setIfInBounds_toArray, List.set_cons_zero, List.set_cons_succ])
  refine any_take 16 ?vrkn15 rfl (by kernel_rfl) (by kernel_rfl) (by kernel_rfl) (fun _ _ _ h => h) (by rfl) ?hrkn15 hS ?_
  case hrkn15 => (intro w hSw; (try dsimp only at hSw); go_split_ands; go_simp; (try with_reducible rfl))
  (try simp only [Act.put, List.setIfInBounds_toArray, List.set_cons_zero, List.set_cons_succ])
  refine any_take 17 ?vrkn16 rfl (by kernel_rfl) (by kernel_rfl) (by kernel_rfl) (fun _ _ _ h => h) (by rfl) ?hrkn16 hS ?_
  case hrkn16 => (intro w hSw; (try dsimp only at hSw); go_split_ands; go_simp; (try with_reducible rfl))
  (try simp only [Act.put, List.setIfInBounds_toArray, List.set_cons_zero, List.set_cons_succ])
  refine any_take 18 ?vrkn17 rfl (by kernel_rfl) (by kernel_rfl) (by kernel_rfl) (fun _ _ _ h => h) (by rfl) ?hrkn17 hS ?_
  case hrkn17 => (intro w hSw; (try dsimp only at hSw); go_split_ands; go_simp; (try with_reducible rfl))
  (try simp only [Act.put, List.setIfInBounds_toArray, List.set_cons_zero, List.set_cons_succ])
  refine wpAnyH_done (by kernel_rfl) ?_ _
  refine NoPanic.normal ?_
  clear hS hS0 HQ1 HQ
  by_cases h2 : p2 = 0
  · subst h2
    obtain ⟨q1, q2⟩ := HN.out.2.2.2.2.2 _ HKN.out rfl
    dsimp only at q1 q2
    obtain ⟨i, rfl⟩ : ∃ i : Nat, p1 = (i : Int) := ⟨p1.toNat, by omega⟩
    have K3 := pkey_ok w2 R s oa oc x ((HN.out.1.gr (by have := HN.out.2.2.1; omega)).below HB1.out) i (by omega) (HN.out.2.2.2.1.below HB1.out) (HN.out.2.2.2.2.1.below HB1.out)
    clear q1 q2
    go_wp2_with fail
    refine K3.mono ?_
    rintro ev w3 ⟨d, cd, x', rfl, hs, hG, hl⟩
    have HE : Hid (Sees w3 d cd (s.key i) ∧ PNAll w3 R s oa oc x' ∧ Later R w1 w3 x x') := ⟨hs, .begun hG (by have := HN.out.2.2.1; omega), (Later.of_below HB1.out).trans hl⟩
    clear K3 hs hG hl
    go_wp2
    go_ret3
    refine ⟨_, HKN.out, d, cd, x', ?_, HE.out⟩
    show _ = Ending.returned (.tuple #[.int .i64 (i : Int), .slice d (s.key i).length cd, .int .i64 0])
    rw [Rn.key_len]
    rfl
  · have HE : Hid (s.tell (p1, p2) = (0, [], p2) ∧ PNAll w2 R s oa oc x ∧ Later R w1 w2 x x) := ⟨if_neg h2, HN.out.1.below HB1.out, Later.of_below HB1.out⟩
    go_wp2
    go_ret3
    refine ⟨_, HKN.out, ?_⟩
    rw [HE.out.1]
    exact ⟨none, 0, x, rfl, Sees.nil' _, HE.out.2⟩


set_option maxHeartbeats 1600000 in
theorem pover_no (w : World) (p : Value) (h : NoN w p) (r : Int) : Calls Tryz.prog 15 #[p, .int .i64 r] w fun e w' => e = .returned (.bool true) ∧ Below w.heap.size w w' := by
  have KB := nbegun_no w.drew p (h.below (Below.refl _ _).drew)
  clear h
  go_enter Tryz.func15, Tryz.ntmps15
  go_wp2_with fail
  refine wp_region_noPanic ?_
  refine wp_region_held (S := fun _ => True) (by kernel_rfl) ?_
  have hS := trivial
  refine any_take 0 ?vron1 rfl (by kernel_rfl) (by kernel_rfl) (by kernel_rfl) (fun _ _ _ h => h) (by rfl) ?hron1 hS ?_
  case hron1 => (intro w hSw; (try dsimp only at hSw); go_split_ands; go_simp; (try with_reducible rfl))
  (try simp only [Act.put, List.setIfInBounds_toArray, List.set_cons_zero, List.set_cons_succ])
  refine any_one 1 rfl (by kernel_rfl) (by rfl) (fun K hK => ?_)
  clear hS
  go_simp
  refine (KB.mono ?_)
  rintro ev w1 ⟨rfl, hw1⟩
  have HW1 : Hid (w1 = w.drew) := hw1
  clear hw1 KB
  refine hK.out _ _ (trivial) (fun hS => ?_)
  clear hK
  (try simp only [Act.put, List.setIfInBounds_toArray, List.set_cons_zero, List.set_cons_succ])
  refine any_take 2 (Value.bool true) rfl (by kernel_rfl) (by kernel_rfl) (by kernel_rfl) (fun _ _ _ h => h) (by rfl) (by intro w hSw; (try dsimp only at hSw); go_split_ands; go_simp; first | done | (simp; omega)) hS ?_
  (try simp only [Act.put, List.setIfInBounds_toArray, List.set_cons_zero, List.set_cons_succ])
  refine any_take 3 ?vron2 rfl (by kernel_rfl) (by kernel_rfl) (by kernel_rfl) (fun _ _ _ h => h) (by rfl) ?hron2 hS ?_
  case hron2 => (intro w hSw; (try dsimp only at hSw); go_split_ands; go_simp; (try with_reducible rfl))
  (try simp only [Act.put, List.setIfInBounds_toArray, List.set_cons_zero, List.set_cons_succ])
  refine any_skip 4 rfl (by kernel_rfl) (by kernel_rfl) (by kernel_rfl) (fun _ _ _ h => h) (by rfl) hS ?_
  (try simp only [Act.put, List.setIfInBounds_toArray, List.set_cons_zero, List.set_cons_succ])
  refine any_skip 5 rfl (by kernel_rfl) (by kernel_rfl) (by kernel_rfl) (fun _ _ _ h => h) (by rfl) hS ?_
  (try simp only [Act.put, List.setIfInBounds_toArray, List.set_cons_zero, List.set_cons_succ])
  refine any_skip 6 rfl (by kernel_rfl) (by kernel_rfl) (by kernel_rfl) (fun _ _ _ h => h) (by rfl) hS ?_
  (try simp only [Act.put, List.setIfInBounds_toArray, List.set_cons_zero, List.set_cons_succ])
  refine any_skip 7 rfl (by kernel_rfl) (by kernel_rfl) (by kernel_rfl) (fun _ _ _ h => h) (by rfl) hS ?_
  (try simp only [Act.put, List.setIfInBounds_toArray, List.set_cons_zero, List.set_cons_succ])
  refine any_skip 8 rfl (by kernel_rfl) (by kernel_rfl) (by kernel_rfl) (fun _ _ _ h => h) (by rfl) hS ?_
  (try simp only [Act.put, List.setIfInBounds_toArray, List.set_cons_zero, List.set_cons_succ])
  refine any_skip 9 rfl (by kernel_rfl) (by kernel_rfl) (by kernel_rfl) (fun _ _ _ h => h) (by rfl) hS ?_
  (try simp only [Act.put, List.setIfInBounds_toArray, List.set_cons_zero, List.set_cons_succ])
  refine any_skip 10 rfl (by kernel_rfl) (by kernel_rfl) (by kernel_rfl) (fun _ _ _ h => h) (by rfl) hS ?_
  (try simp only [Act.put, List.setIfInBounds_toArray, List.set_cons_zero, List.set_cons_succ])
  refine any_skip 11 rfl (by kernel_rfl) (by kernel_rfl) (by kernel_rfl) (fun _ _ _ h => h) (by rfl) hS ?_
  (try simp only [Act.put, List.setIfInBounds_toArray, List.set_cons_zero, List.set_cons_succ])
  refine any_skip 12 rfl (by kernel_rfl) (by kernel_rfl) (by kernel_rfl) (fun _ _ _ h => h) (by rfl) hS ?_
  (try simp only [Act.put, List.setIfInBounds_toArray, List.set_cons_zero, List.set_cons_succ])
  refine any_skip 13 rfl (by kernel_rfl) (by kernel_rfl) (by kernel_rfl) (fun _ _ _ h => h) (by rfl) hS ?_
  (try simp only [Act.put, List.setIfInBounds_toArray, List.set_cons_zero, List.set_cons_succ])
  refine any_take 14 ?vron3 rfl (by kernel_rfl) (by kernel_rfl) (by kernel_rfl) (fun _ _ _ h => h) (by rfl) ?hron3 hS ?_
  case hron3 => (intro w hSw; (try dsimp only at hSw); go_split_ands; go_simp; (try with_reducible rfl))
  (try simp only [Act.put, List.setIfInBounds_toArray, List.set_cons_zero, List.set_cons_succ])
  refine any_take 15 ?vron4 rfl (by kernel_rfl) (by kernel_rfl) (by kernel_rfl) (fun _ _ _ h => h) (by rfl) ?hron4 hS ?_
  case hron4 => (intro w hSw; (try dsimp only at hSw); go_split_ands; go_simp; (try with_reducible rfl))
  (try simp only [Act.put, List.setIfInBounds_toArray, List.set_cons_zero, List.set_cons_succ])
  refine wpAnyH_done (by kernel_rfl) ?_ _
  refine NoPanic.normal ?_
  clear hS
  go_wp2
  go_ret
  exact ⟨rfl, by rw [HW1.out]; exact (Below.refl _ _).drew⟩

set_option maxHeartbeats 1600000 in
theorem pover_idle (w : World) (R : Nat) (s : Rn) (oa : Option Addr) (oc : Nat) (c10 : w.cell? ⟨R, 10, none⟩ = some (.slice oa 16 oc)) (c12 : w.cell? ⟨R, 12, none⟩ = some (.int .i64 s.ep)) (h0 : s.ep = -1) (r : Int) : Calls Tryz.prog 15 #[.pointer (some ⟨R, 0, none⟩), .int .i64 r] w fun e w' => e = .returned (.bool true) ∧ Below w.heap.size w w' := by
  have KB := nbegun_at w.drew R oa oc s.ep c10 c12
  rw [if_pos h0] at KB
  clear c10 c12 h0
  go_enter Tryz.func15, Tryz.ntmps15
  go_wp2_with fail
  refine wp_region_noPanic ?_
  refine wp_region_held (S := fun _ => True) (by kernel_rfl) ?_
  have hS := trivial
  refine any_take 0 ?vron1 rfl (by kernel_rfl) (by kernel_rfl) (by kernel_rfl) (fun _ _ _ h => h) (by rfl) ?hron1 hS ?_
  case hron1 => (intro w hSw; (try dsimp only at hSw); go_split_ands; go_simp; (try with_reducible rfl))
  (try simp only [Act.put, List.setIfInBounds_toArray, List.set_cons_zero, List.set_cons_succ])
  refine any_one 1 rfl (by kernel_rfl) (by rfl) (fun K hK => ?_)
  clear hS
  go_simp
  refine (KB.mono ?_)
  rintro ev w1 ⟨rfl, hw1⟩
  have HW1 : Hid (w1 = w.drew) := hw1
  clear hw1 KB
  refine hK.out _ _ (trivial) (fun hS => ?_)
  clear hK
  (try simp only [Act.put, List.setIfInBounds_toArray, List.set_cons_zero, List.set_cons_succ])
  refine any_take 2 (Value.bool true) rfl (by kernel_rfl) (by kernel_rfl) (by kernel_rfl) (fun _ _ _ h => h) (by rfl) (by intro w hSw; (try dsimp only at hSw); go_split_ands; go_simp; first | done | (simp; omega)) hS ?_
  (try simp only [Act.put, List.setIfInBounds_toArray, List.set_cons_zero, List.set_cons_succ])
  refine any_take 3 ?vron2 rfl (by kernel_rfl) (by kernel_rfl) (by kernel_rfl) (fun _ _ _ h => h) (by rfl) ?hron2 hS ?_
  case hron2 => (intro w hSw; (try dsimp only at hSw); go_split_ands; go_simp; (try with_reducible rfl))
  (try simp only [Act.put, List.setIfInBounds_toArray, List.set_cons_zero, List.set_cons_succ])
  refine any_skip 4 rfl (by kernel_rfl) (by kernel_rfl) (by kernel_rfl) (fun _ _ _ h => h) (by rfl) hS ?_
  (try simp only [Act.put, List.setIfInBounds_toArray, List.set_cons_zero, List.set_cons_succ])
  refine any_skip 5 rfl (by kernel_rfl) (by kernel_rfl) (by kernel_rfl) (fun _ _ _ h => h) (by rfl) hS ?_
  (try simp only [Act.put, List.setIfInBounds_toArray, List.set_cons_zero, List.set_cons_succ])
  refine any_skip 6 rfl (by kernel_rfl) (by kernel_rfl) (by kernel_rfl) (fun _ _ _ h => h) (by rfl) hS ?_
  (try simp only [Act.put, List.setIfInBounds_toArray, List.set_cons_zero, List.set_cons_succ])
  refine any_skip 7 rfl (by kernel_rfl) (by kernel_rfl) (by kernel_rfl) (fun _ _ _ h => h) (by rfl) hS ?_
  (try simp only [Act.put, List.setIfInBounds_toArray, List.set_cons_zero, List.set_cons_succ])
  refine any_skip 8 rfl (by kernel_rfl) (by kernel_rfl) (by kernel_rfl) (fun _ _ _ h => h) (by rfl) hS ?_
  (try simp only [Act.put, List.setIfInBounds_toArray, List.set_cons_zero, List.set_cons_succ])
  refine any_skip 9 rfl (by kernel_rfl) (by kernel_rfl) (by kernel_rfl) (fun _ _ _ h => h) (by rfl) hS ?_
  (try simp only [Act.put, List.setIfInBounds_toArray, List.set_cons_zero, List.set_cons_succ])
  refine any_skip 10 rfl (by kernel_rfl) (by kernel_rfl) (by kernel_rfl) (fun _ _ _ h => h) (by rfl) hS ?_
  (try simp only [Act.put, List.setIfInBounds_toArray, List.set_cons_zero, List.set_cons_succ])
  refine any_skip 11 rfl (by kernel_rfl) (by kernel_rfl) (by kernel_rfl) (fun _ _ _ h => h) (by rfl) hS ?_
  (try simp only [Act.put, List.setIfInBounds_toArray, List.set_cons_zero, List.set_cons_succ])
  refine any_skip 12 rfl (by kernel_rfl) (by kernel_rfl) (by kernel_rfl) (fun _ _ _ h => h) (by rfl) hS ?_
  (try simp only [Act.put, List.setIfInBounds_toArray, List.set_cons_zero, List.set_cons_succ])
  refine any_skip 13 rfl (by kernel_rfl) (by kernel_rfl) (by kernel_rfl) (fun _ _ _ h => h) (by rfl) hS ?_
  (try simp only [Act.put, List.setIfInBounds_toArray, List.set_cons_zero, List.set_cons_succ])
  refine any_take 14 ?vron3 rfl (by kernel_rfl) (by kernel_rfl) (by kernel_rfl) (fun _ _ _ h => h) (by rfl) ?hron3 hS ?_
  case hron3 => (intro w hSw; (try dsimp only at hSw); go_split_ands; go_simp; (try with_reducible rfl))
  (try simp only [Act.put, List.setIfInBounds_toArray, List.set_cons_zero, List.set_cons_succ])
  refine any_take 15 ?vron4 rfl (by kernel_rfl) (by kernel_rfl) (by kernel_rfl) (fun _ _ _ h => h) (by rfl) ?hron4 hS ?_
  case hron4 => (intro w hSw; (try dsimp only at hSw); go_split_ands; go_simp; (try with_reducible rfl))
  (try simp only [Act.put, List.setIfInBounds_toArray, List.set_cons_zero, List.set_cons_succ])
  refine wpAnyH_done (by kernel_rfl) ?_ _
  refine NoPanic.normal ?_
  clear hS
  go_wp2
  go_ret
  exact ⟨rfl, by rw [HW1.out]; exact (Below.refl _ _).drew⟩

set_option maxHeartbeats 1600000 in
theorem pover_at (w : World) (R : Nat) (s : Rn) (oa : Option Addr) (oc : Nat) (c10 : w.cell? ⟨R, 10, none⟩ = some (.slice oa 16 oc)) (c12 : w.cell? ⟨R, 12, none⟩ = some (.int .i64 s.ep)) (hQ : ∀ V, Below w.heap.size w V → ((Instr.loadAt 23 (.pointer (some ⟨R, 0, none⟩))).run Tryz.prog V = .ok (.agg (cfC s.c)) V ∧ V.cell? ⟨R, 13, none⟩ = some (.int .i64 s.st))) (h0 : ¬ s.ep = -1) (r : Int) : Calls Tryz.prog 15 #[.pointer (some ⟨R, 0, none⟩), .int .i64 r] w fun e w' => e = .returned (.bool (ovB s.c s.st r)) ∧ Below w.heap.size w w' := by
  have KB := nbegun_at w.drew R oa oc s.ep c10 c12
  rw [if_neg h0] at KB
  have K1 := over_ok w.drew s.c s.st r
  obtain ⟨v, hv⟩ : ∃ v, v = ovB s.c s.st r := ⟨_, rfl⟩
  rw [← hv] at K1 ⊢
  have HQ : Hid (∀ V, Below w.heap.size w V → ((Instr.loadAt 23 (.pointer (some ⟨R, 0, none⟩))).run Tryz.prog V = .ok (.agg (cfC s.c)) V ∧ V.cell? ⟨R, 13, none⟩ = some (.int .i64 s.st))) := hQ
  have hS0 := HQ.out w.drew (Below.refl _ _).drew
  clear c10 c12 h0 hv hQ
  go_enter Tryz.func15, Tryz.ntmps15
  go_wp2_with fail
  refine wp_region_noPanic ?_
  refine wp_region_held (S := fun V => (Instr.loadAt 23 (.pointer (some ⟨R, 0, none⟩))).run Tryz.prog V = .ok (.agg (cfC s.c)) V ∧ V.cell? ⟨R, 13, none⟩ = some (.int .i64 s.st)) (by kernel_rfl) ?_
  have hS := hS0
  refine any_take 0 ?vron1 rfl (by kernel_rfl) (by kernel_rfl) (by kernel_rfl) (fun _ _ _ h => h) (by rfl) ?hron1 hS ?_
  case hron1 => (intro w hSw; (try dsimp only at hSw); go_split_ands; go_simp; (try with_reducible rfl))
  (try simp only [Act.put, List.setIfInBounds_toArray, List.set_cons_zero, List.set_cons_succ])
  refine any_one 1 rfl (by kernel_rfl) (by rfl) (fun K hK => ?_)
  clear hS
  go_simp
  refine (KB.mono ?_)
  rintro ev w1 ⟨rfl, hw1⟩
  have HW1 : Hid (w1 = w.drew) := hw1
  clear KB
  have HQ1 := HQ.out w1 (by rw [hw1]; exact (Below.refl _ _).drew)
  subst hw1
  refine hK.out _ _ (HQ1) (fun hS => ?_)
  clear hK
  (try simp only [Act.put, List.setIfInBounds_toArray, List.set_cons_zero, List.set_cons_succ])
  refine any_take 2 (Value.bool false) rfl (by kernel_rfl) (by kernel_rfl) (by kernel_rfl) (fun _ _ _ h => h) (by rfl) (by intro w hSw; (try dsimp only at hSw); go_split_ands; go_simp; first | done | (simp; omega)) hS ?_
  (try simp only [Act.put, List.setIfInBounds_toArray, List.set_cons_zero, List.set_cons_succ])
  refine any_take 3 ?vron2 rfl (by kernel_rfl) (by kernel_rfl) (by kernel_rfl) (fun _ _ _ h => h) (by rfl) ?hron2 hS ?_
  case hron2 => (intro w hSw; (try dsimp only at hSw); go_split_ands; go_simp; (try with_reducible rfl))
  (try simp only [Act.put, List.setIfInBounds_toArray, List.set_cons_zero, List.set_cons_succ])
  refine any_take 4 ?vron3 rfl (by kernel_rfl) (by kernel_rfl) (by kernel_rfl) (fun _ _ _ h => h) (by rfl) ?hron3 hS ?_
  case hron3 => (intro w hSw; (try dsimp only at hSw); go_split_ands; go_simp; (try with_reducible rfl))
  (try simp only [Act.put, List.setIfInBounds_toArray, List.set_cons_zero, List.set_cons_succ])
  refine any_take 5 ?vron4 rfl (by kernel_rfl) (by kernel_rfl) (by kernel_rfl) (fun _ _ _ h => h) (by rfl) ?hron4 hS ?_
  case hron4 => (intro w hSw; (try dsimp only at hSw); go_split_ands; go_simp; (try with_reducible rfl))
  (try simp only [Act.put, List.setIfInBounds_toArray, List.set_cons_zero, List.set_cons_succ])
  refine any_take 6 ?vron5 rfl (by kernel_rfl) (by kernel_rfl) (by kernel_rfl) (fun _ _ _ h => h) (by rfl) ?hron5 hS ?_
  case hron5 => (intro w hSw; (try dsimp only at hSw); go_split_ands; go_simp; (try with_reducible rfl))
  (try simp only [Act.put, List.setIfInBounds_toArray, List.set_cons_zero, List.set_cons_succ])
  refine any_take 7 (Value.agg (cfC s.c)) rfl (by kernel_rfl) (by kernel_rfl) (by kernel_rfl) (fun _ _ _ h => h) (by rfl) (fun W hW => exec_load 23 (.tmp 11) rfl _ _ rfl hW.1) hS ?_
  (try simp only [Act.put, List.setIfInBounds_toArray, List.set_cons_zero, List.set_cons_succ])
  refine any_take 8 ?vron6 rfl (by kernel_rfl) (by kernel_rfl) (by kernel_rfl) (fun _ _ _ h => h) (by rfl) ?hron6 hS ?_
  case hron6 => (intro w hSw; (try dsimp only at hSw); go_split_ands; go_simp; (try with_reducible rfl))
  (try simp only [Act.put, List.setIfInBounds_toArray, List.set_cons_zero, List.set_cons_succ])
  refine any_take 9 ?vron7 rfl (by kernel_rfl) (by kernel_rfl) (by kernel_rfl) (fun _ _ _ h => h) (by rfl) ?hron7 hS ?_
  case hron7 => (intro w hSw; (try dsimp only at hSw); go_split_ands; go_simp; (try with_reducible rfl))
  (try simp only [Act.put, List.setIfInBounds_toArray, List.set_cons_zero, List.set_cons_succ])
  refine any_take 10 ?vron8 rfl (by kernel_rfl) (by kernel_rfl) (by kernel_rfl) (fun _ _ _ h => h) (by rfl) ?hron8 hS ?_
  case hron8 => (intro w hSw; (try dsimp only at hSw); go_split_ands; go_simp; (try with_reducible rfl))
  (try simp only [Act.put, List.setIfInBounds_toArray, List.set_cons_zero, List.set_cons_succ])
  refine any_take 11 ?vron9 rfl (by kernel_rfl) (by kernel_rfl) (by kernel_rfl) (fun _ _ _ h => h) (by rfl) ?hron9 hS ?_
  case hron9 => (intro w hSw; (try dsimp only at hSw); go_split_ands; go_simp; (try with_reducible rfl))
  (try simp only [Act.put, List.setIfInBounds_toArray, List.set_cons_zero, List.set_cons_succ])
  refine any_take 12 ?vron10 rfl (by kernel_rfl) (by kernel_rfl) (by kernel_rfl) (fun _ _ _ h => h) (by rfl) ?hron10 hS ?_
  case hron10 => (intro w hSw; (try dsimp only at hSw); go_split_ands; go_simp; (try with_reducible rfl))
  (try simp only [Act.put, List.setIfInBounds_toArray, List.set_cons_zero, List.set_cons_succ])
  refine any_one 13 rfl (by kernel_rfl) (by rfl) (fun K hK => ?_)
  clear hS
  go_simp
  refine K1.mono ?_
  rintro ev w2 ⟨rfl, hb2⟩
  have HB2 : Hid (Below w.heap.size w w2) := (Below.refl _ _).drew.trans hb2
  have HQ2 := HQ.out w2 HB2.out
  clear hb2 K1
  refine hK.out _ _ (HQ2) (fun hS => ?_)
  clear hK
  (try simp only [Act.put, List.setIfInBounds_toArray, List.set_cons_zero, List.set_cons_succ])
  refine any_take 14 ?vron11 rfl (by kernel_rfl) (by kernel_rfl) (by kernel_rfl) (fun _ _ _ h => h) (by rfl) ?hron11 hS ?_
  case hron11 => (intro w hSw; (try dsimp only at hSw); go_split_ands; go_simp; (try with_reducible rfl))
  (try simp only [Act.put, List.setIfInBounds_toArray, List.set_cons_zero, List.set_cons_succ])
  refine any_take 15 ?vron12 rfl (by kernel_rfl) (by kernel_rfl) (by kernel_rfl) (fun _ _ _ h => h) (by rfl) ?hron12 hS ?_
  case hron12 => (intro w hSw; (try dsimp only at hSw); go_split_ands; go_simp; (try with_reducible rfl))
  (try simp only [Act.put, List.setIfInBounds_toArray, List.set_cons_zero, List.set_cons_succ])
  refine wpAnyH_done (by kernel_rfl) ?_ _
  refine NoPanic.normal ?_
  clear hS hS0 HQ2 HQ
  go_wp2
  go_ret
  exact ⟨rfl, HB2.out⟩

theorem pover_any (w : World) (R : Nat) (s : Rn) (oa : Option Addr) (oc : Nat) (x : PN) (h : PNAll w R s oa oc x) (hok : s.ok) (r : Int) : Calls Tryz.prog 15 #[.pointer (some ⟨R, 0, none⟩), .int .i64 r] w fun e w' => e = .returned (.bool (s.over r)) ∧ Below w.heap.size w w' := by
  obtain ⟨c10, _, c12, _, _⟩ := h.cells hok
  by_cases h0 : s.ep < 0
  · have hv : s.over r = true := by unfold Rn.over; rw [decide_eq_true h0]; rfl
    rw [hv]
    exact pover_idle w R s oa oc c10 c12 (by rcases hok.ep with h | h <;> omega) r
  · have hv : s.over r = ovB s.c s.st r := by unfold Rn.over; rw [decide_eq_false h0]; rfl
    rw [hv]
    exact pover_at w R s oa oc c10 c12 (fun V hb => ⟨((h.below hb).cells hok).2.2.2.2, ((h.below hb).cells hok).2.2.2.1⟩) (by omega) r

end Go.Proofs.YtgncdnejmobjbaaGreatDoor
