/-
  The contracts of the document's Middle, Points, Clamp and Correct.
-/
import Derived.Test.YtfifcfdlmpgohaaFtmB
import Derived.Test.YtfifcfdlmpgohaaIvalCalls2
import Derived.Test.YtfifcfdlmpgohaaIvals
namespace Go.Proofs.Ytfifcfdlmpgohaa
open Go.ChangeShapes Go.WideShapes Go.ChangeAt Go.RowKit
set_option maxRecDepth 20000

theorem trV_len {l : List Int} {f : Int} (h : trE l f = 0) : (trV l f).length = l.length - 2 * f.toNat := by
  rcases trE_cases l f with ⟨e, _⟩ | ⟨e, _⟩ | ⟨_, h1, _, h3⟩
  · rw [h] at e; cases e
  · rw [h] at e; cases e
  · unfold trV
    rw [if_pos h, List.length_take, List.length_drop, srt_len]
    omega
theorem trV_ends {l : List Int} {f : Int} (h : trE l f = 0) : ∃ n, (trV l f).length = n + 1 ∧ (trV l f)[0]? = some (trLo l f.toNat) ∧ (trV l f)[n]? = some (trHi l f.toNat) ∧ -1099511627776 ≤ trLo l f.toNat ∧ trLo l f.toNat ≤ 1099511627776 ∧ -1099511627776 ≤ trHi l f.toNat ∧ trHi l f.toNat ≤ 1099511627776 := by
  have hn := trV_len h
  rcases trE_cases l f with ⟨e, _⟩ | ⟨e, _⟩ | ⟨_, h1, h2, h3⟩
  · rw [h] at e; cases e
  · rw [h] at e; cases e
  · have hl : 2 * f.toNat < l.length := by omega
    have g1 := List.all_eq_true.1 h2 _ (lo_mem hl)
    have g2 := List.all_eq_true.1 h2 _ (hi_mem hl)
    simp only [isT, decide_eq_true_eq] at g1 g2
    refine ⟨l.length - 2 * f.toNat - 1, by omega, ?_, ?_, g1.1, g1.2, g2.1, g2.2⟩
    · unfold trV
      rw [if_pos h, List.getElem?_take, if_pos (by omega), List.getElem?_drop]
      exact lo_get hl
    · unfold trV
      rw [if_pos h, List.getElem?_take, if_pos (by omega), List.getElem?_drop, show f.toNat + (l.length - 2 * f.toNat - 1) = l.length - 1 - f.toNat by omega]
      exact hi_get hl
theorem miV_bad {l : List Int} {f : Int} (h : trE l f ≠ 0) : miV l f = 0 := by unfold miV; rw [if_neg h]
theorem miV_of {l : List Int} {f : Int} (h : trE l f = 0) : miV l f = (trLo l f.toNat + trHi l f.toNat).tdiv 2 := by unfold miV; rw [if_pos h]

set_option maxHeartbeats 4000000 in
theorem dmiddle_ok (w : World) (a : Option Addr) (c : Nat) (l : List Int) (f : Int) (hl : l.length ≤ 900) (hs : LsO w a l) :
    Calls Try.prog 11 #[.slice a l.length c, .int .i64 f] w fun e w' => e = .returned (.tuple #[.int .i64 (miV l f), .int .i64 (trE l f)]) ∧ Below w.heap.size w w' := by
  have K := dtrim_ok w a c l f hl hs
  by_cases hE : trE l f = 0
  · obtain ⟨m, n1, n2, n3, b1, b2, b3, b4⟩ := trV_ends hE
    have hmb : m ≤ 900 := by have := trV_len hE; omega
    rw [miV_of hE]
    unfold TrP at K
    rw [hE] at K ⊢
    generalize trV l f = T at *
    generalize trLo l f.toNat = A at *
    generalize trHi l f.toNat = B at *
    have HT : Hid (T[0]? = some A ∧ T[m]? = some B) := ⟨n2, n3⟩
    rw [n1] at K
    have e9 : IntKind.i64.wrap (A + B) = A + B := wrap_in (by omega) (by omega)
    have e8 : IntKind.i64.wrap ((A + B).tdiv 2) = (A + B).tdiv 2 := by
      obtain ⟨t, h1, h2, h3, _⟩ := tdiv2 (A + B)
      exact wrap_in (by omega) (by omega)
    clear hs hE n2 n3 b1 b2 b3 b4
    go_enter Try.func11, Try.ntmps11
    go_wp2_with fail
    refine K.mono ?_
    rintro e w2 ⟨x, c', rfl, hls, hb⟩
    obtain ⟨b, o, rfl, c1⟩ := hls 0 A HT.out.1
    obtain ⟨b', o', e', c2⟩ := hls m B HT.out.2
    cases e'
    have hS0 : w2.drew.cell? ⟨b, o, none⟩ = some (.int .i64 A) ∧ w2.drew.cell? ⟨b, o + m, none⟩ = some (.int .i64 B) := ⟨c1, c2⟩
    have HB : Hid (Below w.heap.size w w2) := hb
    have e7 : IntKind.i64.wrap (m : Int) = (m : Int) := wrap_in (by omega) (by omega)
    have hm0 : (0 : Int) ≤ (m : Int) := Int.natCast_nonneg _
    clear K hls hb c1 c2 n1 hmb
    go_upto_region 4 with fail
    refine wp_region_noPanic ?_
    refine wp_region_held (S := fun V => V.cell? ⟨b, o, none⟩ = some (.int .i64 A) ∧ V.cell? ⟨b, o + m, none⟩ = some (.int .i64 B)) (by kernel_rfl) ?_
    have hS := hS0
    refine any_take 0 ?vran1 rfl (by kernel_rfl) (by kernel_rfl) (by kernel_rfl) (fun _ _ _ h => h) (by rfl) ?hran1 hS ?_
    case hran1 => (intro w hSw; (try dsimp only at hSw); go_split_ands; go_simp; (try with_reducible rfl))
    (try simp only [Act.put, List.setIfInBounds_toArray, List.set_cons_zero, List.set_cons_succ])
    refine any_take 1 ?vran2 rfl (by kernel_rfl) (by kernel_rfl) (by kernel_rfl) (fun _ _ _ h => h) (by rfl) ?hran2 hS ?_
    case hran2 => (intro w hSw; (try dsimp only at hSw); go_split_ands; go_simp; (try with_reducible rfl))
    (try simp only [Act.put, List.setIfInBounds_toArray, List.set_cons_zero, List.set_cons_succ])
    refine any_take 2 ?vran3 rfl (by kernel_rfl) (by kernel_rfl) (by kernel_rfl) (fun _ _ _ h => h) (by rfl) ?hran3 hS ?_
    case hran3 => (intro w hSw; (try dsimp only at hSw); go_split_ands; go_simp; (try with_reducible rfl))
    (try simp only [Act.put, List.setIfInBounds_toArray, List.set_cons_zero, List.set_cons_succ])
    refine any_take 3 ?vran4 rfl (by kernel_rfl) (by kernel_rfl) (by kernel_rfl) (fun _ _ _ h => h) (by rfl) ?hran4 hS ?_
    case hran4 => (intro w hSw; (try dsimp only at hSw); go_split_ands; go_simp; (try with_reducible rfl))
    (try simp only [Act.put, List.setIfInBounds_toArray, List.set_cons_zero, List.set_cons_succ])
    refine any_take 4 ?vran5 rfl (by kernel_rfl) (by kernel_rfl) (by kernel_rfl) (fun _ _ _ h => h) (by rfl) ?hran5 hS ?_
    case hran5 => (intro w hSw; (try dsimp only at hSw); go_split_ands; go_simp; (try with_reducible rfl))
    (try simp only [Act.put, List.setIfInBounds_toArray, List.set_cons_zero, List.set_cons_succ])
    refine any_take 5 ?vran6 rfl (by kernel_rfl) (by kernel_rfl) (by kernel_rfl) (fun _ _ _ h => h) (by rfl) ?hran6 hS ?_
    case hran6 => (intro w hSw; (try dsimp only at hSw); go_split_ands; go_simp; (try with_reducible rfl))
    (try simp only [Act.put, List.setIfInBounds_toArray, List.set_cons_zero, List.set_cons_succ])
    refine any_take 6 ?vran7 rfl (by kernel_rfl) (by kernel_rfl) (by kernel_rfl) (fun _ _ _ h => h) (by rfl) ?hran7 hS ?_
    case hran7 => (intro w hSw; (try dsimp only at hSw); go_split_ands; go_simp; (try with_reducible rfl))
    (try simp only [Act.put, List.setIfInBounds_toArray, List.set_cons_zero, List.set_cons_succ])
    refine any_take 7 (Value.pointer (some ⟨b, o + m, none⟩)) rfl (by kernel_rfl) (by kernel_rfl) (by kernel_rfl) (fun _ _ _ h => h) (by rfl) (by intro w hSw; (try dsimp only at hSw); go_split_ands; go_simp; (try (intro hc; omega))) hS ?_
    (try simp only [Act.put, List.setIfInBounds_toArray, List.set_cons_zero, List.set_cons_succ])
    refine any_take 8 ?vran8 rfl (by kernel_rfl) (by kernel_rfl) (by kernel_rfl) (fun _ _ _ h => h) (by rfl) ?hran8 hS ?_
    case hran8 => (intro w hSw; (try dsimp only at hSw); go_split_ands; go_simp; (try with_reducible rfl))
    (try simp only [Act.put, List.setIfInBounds_toArray, List.set_cons_zero, List.set_cons_succ])
    refine any_take 9 ?vran9 rfl (by kernel_rfl) (by kernel_rfl) (by kernel_rfl) (fun _ _ _ h => h) (by rfl) ?hran9 hS ?_
    case hran9 => (intro w hSw; (try dsimp only at hSw); go_split_ands; go_simp; (try with_reducible rfl))
    (try simp only [Act.put, List.setIfInBounds_toArray, List.set_cons_zero, List.set_cons_succ])
    refine any_take 10 ?vran10 rfl (by kernel_rfl) (by kernel_rfl) (by kernel_rfl) (fun _ _ _ h => h) (by rfl) ?hran10 hS ?_
    case hran10 => (intro w hSw; (try dsimp only at hSw); go_split_ands; go_simp; (try with_reducible rfl))
    (try simp only [Act.put, List.setIfInBounds_toArray, List.set_cons_zero, List.set_cons_succ])
    refine any_take 11 ?vran11 rfl (by kernel_rfl) (by kernel_rfl) (by kernel_rfl) (fun _ _ _ h => h) (by rfl) ?hran11 hS ?_
    case hran11 => (intro w hSw; (try dsimp only at hSw); go_split_ands; go_simp; (try with_reducible rfl))
    (try simp only [Act.put, List.setIfInBounds_toArray, List.set_cons_zero, List.set_cons_succ])
    refine any_take 12 ?vran12 rfl (by kernel_rfl) (by kernel_rfl) (by kernel_rfl) (fun _ _ _ h => h) (by rfl) ?hran12 hS ?_
    case hran12 => (intro w hSw; (try dsimp only at hSw); go_split_ands; go_simp; (try with_reducible rfl))
    (try simp only [Act.put, List.setIfInBounds_toArray, List.set_cons_zero, List.set_cons_succ])
    refine wpAnyH_done (by kernel_rfl) ?_ _
    refine NoPanic.normal ?_
    clear hS hS0
    go_wp2
    go_ret2
    exact ⟨rfl, HB.out.trans (Below.refl _ _).drew⟩
  · rw [miV_bad hE]
    unfold TrP at K
    generalize trE l f = E at *
    clear hs
    go_enter Try.func11, Try.ntmps11
    go_wp2_with fail
    refine K.mono ?_
    rintro e w2 ⟨x, c', rfl, hls, hb⟩
    have HB : Hid (Below w.heap.size w w2) := hb
    clear K hls hb
    go_wp2
    go_ret2
    exact ⟨rfl, HB.out⟩

set_option maxHeartbeats 4000000 in
theorem dclamp_ok (w : World) (n most : Int) (h1 : (Lit.int .i64 most).wf = true) :
    Calls Try.prog 18 #[.int .i64 n, .int .i64 most] w fun e w' => e = .returned (.int .i64 (clV n most)) ∧ Below w.heap.size w w' := by
  have hw : -9223372036854775808 ≤ most ∧ most ≤ 9223372036854775807 := by
    simp [Lit.wf, IntKind.min, IntKind.max, IntKind.signed, IntKind.bits] at h1; omega
  obtain ⟨M, hM⟩ : ∃ M, M = max most 0 := ⟨_, rfl⟩
  have e1 : (if most < 0 then 0 else most) = M := by rw [hM]; split <;> omega
  have e2 : IntKind.i64.wrap (-M) = -M := wrap_in (by omega) (by omega)
  obtain ⟨p, hp⟩ : ∃ p, p = (if n < -M then -M else n) := ⟨_, rfl⟩
  have e3 : (if n < -M then -M else n) = p := hp.symm
  obtain ⟨q, hq⟩ : ∃ q, q = (if M < p then M else p) := ⟨_, rfl⟩
  have e4 : (if M < p then M else p) = q := hq.symm
  have e5 : clV n most = q := by
    unfold clV
    rw [hq, hp, hM]
    split <;> split <;> omega
  rw [e5]
  clear h1 hM hp hq e5 hw
  go_enter Try.func18, Try.ntmps18
  go_wp2
  go_ret
  exact ⟨rfl, Below.refl _ _⟩

theorem ptV_snoc {x : List (Int × Int)} {j : Nat} {p : Int × Int} (h : x[j]? = some p) : ptV (x.take (j + 1)) = ptV (x.take j) ++ (if rightB p.1 p.2 = true then [(p.1 + p.2).tdiv 2] else []) := by
  unfold ptV
  rw [List.take_add_one, h, List.filter_append, List.map_append]
  congr 1
  have e : rightI p = rightB p.1 p.2 := rfl
  simp only [Option.toList_some, List.filter_cons, e, List.filter_nil]
  split <;> simp
theorem ptV_len (x : List (Int × Int)) : (ptV x).length ≤ x.length := by
  unfold ptV
  rw [List.length_map]
  exact List.length_filter_le _ _

/-- What Points answers. -/
def PtP (w : World) (x : List (Int × Int)) (e : Ending) (w' : World) : Prop := ∃ b c', e = .returned (.slice b (ptV x).length c') ∧ LsO w' b (ptV x) ∧ Below w.heap.size w w'
theorem PtP.mk {w w' : World} {x : List (Int × Int)} {L : List Int} {q : Option Addr} {k : Nat} (hL : L = ptV x) (h : LsO w' q L) (hb : Below w.heap.size w w') : PtP w x (.returned (.slice q L.length k)) w' := by
  subst hL; exact ⟨q, k, rfl, h, hb⟩

set_option maxHeartbeats 8000000 in
theorem dpoints_ok (w : World) (a : Option Addr) (c : Nat) (x : List (Int × Int)) (hl : x.length ≤ 900) (hs : Ivals w a c x) :
    Calls Try.prog 16 #[.slice a x.length c] w (PtP w x) := by
  have HX : Hid (Ivals w a c x ∧ x.length ≤ 900) := ⟨hs, hl⟩
  clear hs
  go_enter Try.func16, Try.ntmps16
  go_wp2
  go_loopw [3, 4, 5, 6] (fun u i _ _ wr => ∃ (j : Nat) (L : List Int) (q : Option Addr) (k : Nat), j ≤ x.length ∧ L = ptV (x.take j) ∧ u = .slice q L.length k ∧ i = .int .i64 (j : Int) ∧ Row EL wr (.slice q L.length k) L ∧ (∀ p, (Value.slice q L.length k).ownBlock = some p → w.heap.size ≤ p) ∧ Below w.heap.size w wr) (fun _ i _ _ _ => x.length - (intOf i).toNat)
  case atStart => exact ⟨0, [], none, 0, Nat.zero_le _, rfl, rfl, rfl, Row.nil _ _, (fun p hp => by cases hp), Below.refl _ _⟩
  case round =>
    obtain ⟨j, L, q, k, hj, hL, rfl, rfl, hr, ho, hb⟩ := hrel
    have gj : (0 : Int) ≤ (j : Int) := Int.natCast_nonneg _
    have hLl : L.length ≤ j := by have := ptV_len (x.take j); rw [hL]; rw [List.length_take] at this; omega
    have HI : Hid (L = ptV (x.take j) ∧ Row EL wr (.slice q L.length k) L ∧ (∀ p, (Value.slice q L.length k).ownBlock = some p → w.heap.size ≤ p) ∧ Below w.heap.size w wr ∧ L.length ≤ j ∧ j ≤ x.length) := ⟨hL, hr, ho, hb, hLl, hj⟩
    by_cases hlt : (j : Int) < (x.length : Int)
    · obtain ⟨⟨y, z⟩, hx⟩ : ∃ y, x[j]? = some y := ⟨_, List.getElem?_eq_getElem (by omega)⟩
      obtain ⟨b, o, rfl, cx0, cx1⟩ := (HX.out.1.below hb).get hx
      dsimp only at cx0 cx1
      have e9 : IntKind.i64.wrap ((j : Int) + 1) = ((j + 1 : Nat) : Int) := by rw [wrap_in (by omega) (by omega)]; omega
      have HN : Hid (j < x.length ∧ ptV (x.take (j + 1)) = ptV (x.take j) ++ (if rightB y z = true then [(y + z).tdiv 2] else [])) := ⟨by omega, ptV_snoc hx⟩
      have K := refmiddle_ok wr y z
      unfold middleV at K
      clear hr ho hb hx hL hLl hj
      cases hrb : rightB y z
      · rw [hrb, if_neg (by simp)] at K
        have hn2 : L = ptV (x.take (j + 1)) := by rw [HN.out.2, hrb, HI.out.1]; simp
        have HN2 : Hid (L = ptV (x.take (j + 1))) := hn2
        clear hrb hn2
        go_wp2_with fail
        refine K.mono ?_
        rintro e w2 ⟨rfl, hb2⟩
        have H2 : Hid (Row EL w2 (.slice q L.length k) L ∧ Below w.heap.size w w2) := ⟨HI.out.2.1.below hb2, HI.out.2.2.2.1.trans (hb2.mono HI.out.2.2.2.1.size)⟩
        clear K hb2 cx0 cx1
        go_wp2
        go_roundw
        case rel => exact ⟨j + 1, L, q, k, HN.out.1, HN2.out, rfl, rfl, H2.out.1, HI.out.2.2.1, H2.out.2⟩
        case measure => have := HN.out.1; simp [intOf]; omega
      · rw [hrb, if_pos rfl] at K
        obtain ⟨M, hM⟩ : ∃ M, M = (y + z).tdiv 2 := ⟨_, rfl⟩
        rw [← hM] at K
        obtain ⟨L2, hL2⟩ : ∃ L2, L2 = L ++ [M] := ⟨_, rfl⟩
        have HN2 : Hid (L2 = ptV (x.take (j + 1))) := by show L2 = _; rw [HN.out.2, hrb, hL2, HI.out.1, hM]; simp
        clear hrb hM
        go_wp2_with fail
        refine K.mono ?_
        rintro e w2 ⟨rfl, hb2⟩
        have hbw := HI.out.2.2.2.1.trans (hb2.mono HI.out.2.2.2.1.size)
        obtain ⟨a4, c4, w3, run2, r2, b2, o2, _⟩ := row_moreL (w := w) (HI.out.2.1.below hb2) (by have := HI.out.2.2.2.2; omega) hbw HI.out.2.2.1 M
        rw [← hL2] at run2 r2 o2
        have R2 : Hid ((Builtin.append_ #[22, 22] 22 #[.slice q L.length k, .slice (some ⟨w2.heap.size, 0, none⟩) 1 1]).run Try.prog (w2.alloc (.cells #[.int .i64 M] 2)) = .ok (.slice a4 L2.length c4) w3) := run2
        have H3 : Hid (Row EL w3 (.slice a4 L2.length c4) L2 ∧ (∀ p, (Value.slice a4 L2.length c4).ownBlock = some p → w.heap.size ≤ p) ∧ Below w.heap.size w w3) := ⟨r2, o2, b2⟩
        clear K hb2 cx0 cx1 hbw run2 r2 b2 o2 hL2
        go_wp2_with (at_builtin; refine wpList_append_run rfl _ _ 22 rfl _ _ _ rfl rfl R2.out ?_)
        go_roundw
        case rel => exact ⟨j + 1, L2, a4, c4, HN.out.1, HN2.out, rfl, rfl, H3.out.1, H3.out.2.1, H3.out.2.2⟩
        case measure => have := HN.out.1; simp [intOf]; omega
    · have hjx : j = x.length := by omega
      have HE : Hid (L = ptV x ∧ LsO wr q L ∧ Below w.heap.size w wr) := ⟨by rw [hL, hjx, List.take_length], hr.lsO, hb⟩
      clear hr ho hb hL hLl hj hjx
      go_wp2
      go_ret
      exact PtP.mk HE.out.1 HE.out.2.1 HE.out.2.2

set_option maxHeartbeats 4000000 in
theorem dcorrect_ok (w : World) (a : Option Addr) (c : Nat) (x : List (Int × Int)) (f most : Int) (hl : x.length ≤ 900) (hs : Ivals w a c x) (hm : (Lit.int .i64 most).wf = true) :
    Calls Try.prog 13 #[.slice a x.length c, .int .i64 f, .int .i64 most] w fun e w' => e = .returned (.tuple #[.int .i64 (coV x f most), .int .i64 (trE (ptV x) f)]) ∧ Below w.heap.size w w' := by
  have K := dpoints_ok w a c x hl hs
  have K2 : Hid (∀ W b c', LsO W b (ptV x) → Calls Try.prog 11 #[.slice b (ptV x).length c', .int .i64 f] W fun e w' => e = .returned (.tuple #[.int .i64 (miV (ptV x) f), .int .i64 (trE (ptV x) f)]) ∧ Below W.heap.size W w') := fun W b c' h => dmiddle_ok W b c' (ptV x) f (by have := ptV_len x; omega) h
  have K3 : Hid (∀ W n, Calls Try.prog 18 #[.int .i64 n, .int .i64 most] W fun e w' => e = .returned (.int .i64 (clV n most)) ∧ Below W.heap.size W w') := fun W n => dclamp_ok W n most hm
  have hco : coV x f most = if trE (ptV x) f = 0 then clV (miV (ptV x) f) most else 0 := rfl
  rw [hco]
  clear hs hm hl hco
  unfold PtP at K
  generalize ptV x = P at *
  generalize miV P f = M at *
  generalize trE P f = E at *
  by_cases hE : E = 0
  · subst hE
    rw [if_pos rfl]
    go_enter Try.func13, Try.ntmps13
    go_wp2_with fail
    refine K.mono ?_
    rintro e w2 ⟨b, c', rfl, hls, hb⟩
    have K4 := K2.out w2 b c' hls
    have HB : Hid (Below w.heap.size w w2) := hb
    clear K K2 hls hb
    go_wp2_with fail
    refine K4.mono ?_
    rintro e w3 ⟨rfl, hb3⟩
    have HB3 : Hid (Below w.heap.size w w3) := HB.out.trans (hb3.mono HB.out.size)
    clear K4 HB hb3
    have K5 := K3.out w3 M
    clear K3
    go_wp2_with fail
    refine K5.mono ?_
    rintro e w4 ⟨rfl, hb4⟩
    have HB4 : Hid (Below w.heap.size w w4) := HB3.out.trans (hb4.mono HB3.out.size)
    clear K5 HB3 hb4
    go_wp2
    go_ret2
    exact ⟨rfl, HB4.out⟩
  · rw [if_neg hE]
    clear K3
    go_enter Try.func13, Try.ntmps13
    go_wp2_with fail
    refine K.mono ?_
    rintro e w2 ⟨b, c', rfl, hls, hb⟩
    have K4 := K2.out w2 b c' hls
    have HB : Hid (Below w.heap.size w w2) := hb
    clear K K2 hls hb
    go_wp2_with fail
    refine K4.mono ?_
    rintro e w3 ⟨rfl, hb3⟩
    have HB3 : Hid (Below w.heap.size w w3) := HB.out.trans (hb3.mono HB.out.size)
    clear K4 HB hb3
    go_wp2
    go_ret2
    exact ⟨rfl, HB3.out⟩
end Go.Proofs.Ytfifcfdlmpgohaa
