/-
  The walk of ReserveRises.
-/
import Derived.Test.YtjmbioedpghopaaResL
namespace Go.Proofs.Ytjmbioedpghopaa
open Go.ChangeShapes Go.WideShapes Go.ChangeAt Go.RowKit

set_option maxHeartbeats 8000000 in
set_option maxRecDepth 20000 in
theorem rises_walk (x0 : Int) (a1 : Option Addr) (c1 : Nat) (nl : List Int) (w : World) (w0 : (Lit.int .u8 x0).wf = true) (s1 : Nums .u16 w a1 c1 nl) :
    Calls Try.prog 5 #[.int .u8 x0, .slice a1 nl.length c1] w fun e w' => e = .returned (.bool true) ∧ Below w.heap.size w w' := by
  have b0 : 0 ≤ x0 ∧ x0 < 256 := bounds_u8 w0
  obtain ⟨q, hq⟩ : ∃ q : Nat, (q : Int) = x0 % 20 := ⟨(x0 % 20).toNat, by omega⟩
  have hq20 : q < 20 := by omega
  have e0 : x0.tmod 20 = (q : Int) := by rw [Int.tmod_eq_emod_of_nonneg (by omega)]; omega
  have e0' : x0 % 20 = (q : Int) := hq.symm
  obtain ⟨blk, hblk⟩ : ∃ blk, blk = 1 + q := ⟨_, rfl⟩
  have e1 : (1 : Int) + (q : Int) = (blk : Int) := by omega
  have wb : IntKind.i64.wrap (blk : Int) = (blk : Int) := by rw [IntKind.wrap_i64]; omega
  have hb1 : 1 ≤ blk := by omega
  have hb2 : blk ≤ 1024 := by omega
  have H1 : Hid (Nums .u16 w a1 c1 nl) := s1
  have l1 := s1.len
  have hn : Calls Try.prog 7 #[.int .i64 64] w _ := new_held w 64 (by omega)
  clear s1 w0 b0 hq hblk
  go_enter Try.func5, Try.ntmps5
  go_wp2_with fail
  refine hn.mono ?_
  rintro e w1 ⟨g, rfl, hh⟩
  obtain ⟨o1, o2⟩ := open_new blk hb1 hb2
  have ko := open_lone hh (by simp [newS]) (blk : Int) o1 ⟨blk, 0, 0, 0, false⟩ o2.symm
  clear hn hh o1 o2
  go_wp2_with fail
  refine ko.mono ?_
  rintro e w2 ⟨R, rfl, hL⟩
  clear ko
  have HL0 : Hid (Lone w w2 g R (newS 64) ⟨blk, 0, 0, 0, false⟩) := hL
  clear hL
  go_wp2
  go_loopw [9] (fun u wr => ∃ (k : Nat) (s : PS) (v : VS), k ≤ 50 ∧ u = .int .i64 (k : Int) ∧ Rise k s v ∧ Lone w wr g R s v) (fun u _ => 50 - (intOf u).toNat)
  case atStart => exact ⟨0, newS 64, _, by omega, rfl, rise_new blk hb1 hb2, HL0.out⟩
  case round =>
    obtain ⟨k, s, v, hk, rfl, hr, hL⟩ := hrel
    clear HL0
    have g0 : (0 : Int) ≤ (k : Int) := Int.natCast_nonneg _
    by_cases hall : k < nl.length ∧ k < 50
    · obtain ⟨k1, k2⟩ := hall
      obtain ⟨zi, hz⟩ : ∃ z, nl[k]? = some z := ⟨nl[k], by simp [k1]⟩
      obtain ⟨nb, no, rfl, cz⟩ := H1.out.get hz
      have hwz := H1.out.wf zi (List.mem_of_getElem? hz)
      have bz : 0 ≤ zi ∧ zi < 65536 := bounds_u16 hwz
      obtain ⟨z, rfl⟩ : ∃ z : Nat, zi = (z : Int) := ⟨zi.toNat, by omega⟩
      have hz2 : z < 65536 := by omega
      have HCZ : Hid (∀ W, Below w.heap.size w W → W.cell? ⟨nb, no + k, none⟩ = some (.int .u16 (z : Int))) := fun W hW => by rw [hW.cell (p := ⟨nb, no + k, none⟩) (World.block_lt_of_cell? w _ cz)]; exact cz
      have t1 : decide ((k : Int) < (nl.length : Int)) = true := by simp; omega
      have t2 : decide ((k : Int) < 50) = true := by simp; omega
      have i1 : (k : Int) < (nl.length : Int) := by omega
      have wz : IntKind.i64.wrap (z : Int) = (z : Int) := by rw [IntKind.wrap_i64]; omega
      obtain ⟨l, hl⟩ : ∃ l, l = v.least := ⟨_, rfl⟩
      have kl := least_lone hL l hl
      obtain ⟨e0', he0⟩ : ∃ e0, e0 = saveE s 0 12 (recL v.inc (newM v z)) := ⟨_, rfl⟩
      obtain ⟨s0, hs0⟩ : ∃ s0, s0 = saveS s 0 12 (recL v.inc (newM v z)) := ⟨_, rfl⟩
      obtain ⟨E, hE⟩ : ∃ E, E = tkE v (z : Int) e0' := ⟨_, rfl⟩
      obtain ⟨S, hS⟩ : ∃ S, S = tkS v (z : Int) s s0 := ⟨_, rfl⟩
      obtain ⟨V, hV⟩ : ∃ V, V = tkV v (z : Int) e0' := ⟨_, rfl⟩
      obtain ⟨hr2, hor⟩ := hr.take (by omega) z (by omega) e0' he0 s0 hs0 E hE S hS V hV
      have kt := take_lone hL hr.once.ok (by have := hr.once.n; omega) (z : Int) (wf_small z (by omega)) e0' he0 s0 hs0 E hE S hS V hV
      rw [← hl] at hor
      obtain ⟨M, hM⟩ : ∃ M, M = V.mark := ⟨_, rfl⟩
      obtain ⟨L, hL2⟩ : ∃ L, L = V.least := ⟨_, rfl⟩
      have hLM : L ≤ M := by rw [hL2, hM]; exact hr2.once.ok.l1
      rw [← hL2] at hor
      have KA : Hid (∀ W, Lone w W g R S V → (Calls Try.prog 25 #[.pointer (some ⟨R, 0, none⟩)] W fun e w' => e = .returned (.int .i64 (L : Int)) ∧ w' = W) ∧ (Calls Try.prog 23 #[.pointer (some ⟨R, 0, none⟩)] W fun e w' => e = .returned (.int .i64 (M : Int)) ∧ w' = W)) := fun W hW => ⟨least_lone hW L hL2, mark_lone hW hr2.once.ok M hM⟩
      have HR2 : Hid (Rise (k + 1) S V) := hr2
      have HLO : Hid (Lone w wr g R s v) := hL
      clear hz cz hwz bz hL hr hr2 hl he0 hs0 hE hS hV hM hL2 H1
      have cw := HCZ.out wr HLO.out.low
      go_wp2_with fail
      refine kl.mono ?_
      rintro e w3 ⟨rfl, rfl⟩
      clear kl
      go_wp2_with fail
      refine kt.mono ?_
      rintro e w4 ⟨rfl, hL4⟩
      obtain ⟨ka, kb⟩ := KA.out w4 hL4
      have HL4 : Hid (Lone w w4 g R S V) := hL4
      clear kt hL4 cw HCZ KA HLO
      have hM1 : ¬ M < L := by omega
      have hM2 : ¬ (M : Int) < (L : Int) := by omega
      rcases hor with ⟨h1, h2, h3⟩ | ⟨h1, h2, h3⟩
      · subst h2 h3
        have h1i : (z : Int) < (L : Int) := by omega
        have h1n : ¬ L ≤ z := by omega
        rw [show ((10 : Nat) : Int) = 10 from rfl]
        go_wp2_with fail
        refine ka.mono ?_
        rintro e w5 ⟨rfl, rfl⟩
        go_wp2_with fail
        refine kb.mono ?_
        rintro e w6 ⟨rfl, rfl⟩
        go_wp2_with fail
        refine ka.mono ?_
        rintro e w7 ⟨rfl, rfl⟩
        clear ka kb
        go_wp2
        go_roundw
        case rel => exact ⟨k + 1, S, V, by omega, by go_num, HR2.out, HL4.out⟩
        case measure => simp [intOf]; omega
      · subst h2 h3
        have h1i : (l : Int) ≤ (z : Int) := by omega
        rw [show ((0 : Nat) : Int) = 0 from rfl]
        obtain ⟨y, hy⟩ : ∃ y, y = z + 1 := ⟨_, rfl⟩
        rw [← hy] at ka hM1 hM2
        have e5 : (z : Int) + 1 = (y : Int) := by omega
        have e6 : IntKind.i64.wrap (y : Int) = (y : Int) := by rw [IntKind.wrap_i64]; omega
        have h5 : ¬ y < l := by omega
        have h6 : ¬ (y : Int) < (l : Int) := by omega
        clear hy hLM
        go_wp2_with fail
        refine ka.mono ?_
        rintro e w5 ⟨rfl, rfl⟩
        go_wp2_with fail
        refine kb.mono ?_
        rintro e w6 ⟨rfl, rfl⟩
        go_wp2_with fail
        refine ka.mono ?_
        rintro e w7 ⟨rfl, rfl⟩
        go_wp2_with fail
        refine ka.mono ?_
        rintro e w8 ⟨rfl, rfl⟩
        clear ka kb
        go_wp2
        go_roundw
        case rel => exact ⟨k + 1, S, V, by omega, by go_num, HR2.out, HL4.out⟩
        case measure => simp [intOf]; omega
    · obtain ⟨M, hM⟩ : ∃ M, M = v.mark := ⟨_, rfl⟩
      have km := mark_lone hL hr.once.ok M hM
      obtain ⟨o1, o2⟩ := hr.again blk hb1 hb2
      rw [← hM] at o2
      have ko := open_lone hL.held hr.once.len (blk : Int) o1 ⟨blk, v.inc, M, M, false⟩ o2.symm
      have HOK : Hid ((VS.mk blk v.inc M M false).ok) := ⟨hb1, hb2, hr.once.ok.i1, by show M ≤ 1048576; rw [hM]; exact hr.once.ok.m1, Nat.le_refl _⟩
      have KA : Hid (∀ W R2, Lone w W g R2 s ⟨blk, v.inc, M, M, false⟩ → (Calls Try.prog 25 #[.pointer (some ⟨R2, 0, none⟩)] W fun e w' => e = .returned (.int .i64 (M : Int)) ∧ w' = W) ∧ (Calls Try.prog 23 #[.pointer (some ⟨R2, 0, none⟩)] W fun e w' => e = .returned (.int .i64 (M : Int)) ∧ w' = W)) := fun W R2 hW => ⟨least_lone hW M rfl, mark_lone hW HOK.out M rfl⟩
      clear hL hr hM o1 o2 H1
      by_cases b0 : ¬ (k < nl.length)
      · have f0 : decide ((k : Int) < (nl.length : Int)) = false := by simp; omega
        clear hall
        go_wp2_with fail
        refine km.mono ?_
        rintro e w3 ⟨rfl, rfl⟩
        clear km
        go_wp2_with fail
        refine ko.mono ?_
        rintro e w4 ⟨R2, rfl, hL4⟩
        clear ko
        obtain ⟨ka, kb⟩ := KA.out w4 R2 hL4
        have HB4 : Hid (Below w.heap.size w w4) := hL4.low
        clear hL4 KA
        go_wp2_with fail
        refine ka.mono ?_
        rintro e w5 ⟨rfl, rfl⟩
        clear ka
        go_wp2_with fail
        refine kb.mono ?_
        rintro e w6 ⟨rfl, rfl⟩
        clear kb
        go_wp2_with fail
        refine (vawake_ok _).mono ?_
        rintro e w7 ⟨rfl, hb7⟩
        have HB7 : Hid (Below w.heap.size w w7) := HB4.out.trans (hb7.mono HB4.out.size)
        clear hb7
        go_wp2
        go_ret
        exact ⟨rfl, HB7.out⟩
      · have f0 : decide ((k : Int) < (nl.length : Int)) = true := by simp; omega
        have f1 : decide ((k : Int) < 50) = false := by simp; omega
        clear hall
        go_wp2_with fail
        refine km.mono ?_
        rintro e w3 ⟨rfl, rfl⟩
        clear km
        go_wp2_with fail
        refine ko.mono ?_
        rintro e w4 ⟨R2, rfl, hL4⟩
        clear ko
        obtain ⟨ka, kb⟩ := KA.out w4 R2 hL4
        have HB4 : Hid (Below w.heap.size w w4) := hL4.low
        clear hL4 KA
        go_wp2_with fail
        refine ka.mono ?_
        rintro e w5 ⟨rfl, rfl⟩
        clear ka
        go_wp2_with fail
        refine kb.mono ?_
        rintro e w6 ⟨rfl, rfl⟩
        clear kb
        go_wp2_with fail
        refine (vawake_ok _).mono ?_
        rintro e w7 ⟨rfl, hb7⟩
        have HB7 : Hid (Below w.heap.size w w7) := HB4.out.trans (hb7.mono HB4.out.size)
        clear hb7
        go_wp2
        go_ret
        exact ⟨rfl, HB7.out⟩
end Go.Proofs.Ytjmbioedpghopaa
