/-
  What package hmac must say of a tag under way, with the blocks that it lies in; the walk of HmacCuts out of it.
-/
import Derived.Test.YtgojemhbkhjffaaDoorHmacLaws
import Derived.Test.YtgojemhbkhjffaaDoorPlaysW
namespace Go.Proofs.YtgojemhbkhjffaaDoor
open Go.ChangeShapes Go.WideShapes Go.ChangeAt Go.RowKit

/-- All but the blocks of F, and new ones, stay. -/
structure Apart (F : Nat → Prop) (w w' : World) : Prop where
  os : w'.os = w.os
  tape : w'.tape = w.tape
  output : w'.output = w.output
  size : w.heap.size ≤ w'.heap.size
  block : ∀ k, k < w.heap.size → ¬ F k → w'.heap[k]? = w.heap[k]?

theorem Apart.below {F : Nat → Prop} {w0 w w' : World} (h : Apart F w w') (hb : Below w0.heap.size w0 w) (hF : ∀ k, F k → w0.heap.size ≤ k) : Below w0.heap.size w0 w' :=
  ⟨h.os.trans hb.os, h.tape.trans hb.tape, h.output.trans hb.output, Nat.le_trans hb.size h.size, fun k hk => (h.block k (Nat.lt_of_lt_of_le hk hb.size) (fun hf => by have := hF k hf; omega)).trans (hb.block k hk)⟩

/-- A tag under way: at block b, of that key and those bytes, lying in the blocks of F. -/
structure MacSpec (M : World → Nat → List UInt8 → List UInt8 → (Nat → Prop) → Prop) : Prop where
  lt : ∀ {w b key bs F}, M w b key bs F → ∀ k, F k → k < w.heap.size
  keep : ∀ {w w' b key bs F}, M w b key bs F → (∀ k, F k → w'.heap[k]? = w.heap[k]?) → M w' b key bs F
  new : ∀ (w : World) (a : Option Addr) (ca : Nat) (key : List UInt8), FTab w → KTab w → Sees w a ca key → key.length ≤ 2000 →
    Calls Tryd.prog 16 #[.slice a key.length ca] w fun e w' => ∃ b F, e = .returned (.tuple #[.pointer (some ⟨b, 0, none⟩), .int .i64 0]) ∧ M w' b key [] F ∧ Below w.heap.size w w' ∧ ∀ k, F k → w.heap.size ≤ k
  write : ∀ (w : World) (b : Nat) (key bs : List UInt8) (F : Nat → Prop) (x : Option Addr) (cx : Nat) (cs : List UInt8), FTab w → KTab w → M w b key bs F → Sees w x cx cs → bs.length + cs.length ≤ 20000 →
    Calls Tryd.prog 17 #[.pointer (some ⟨b, 0, none⟩), .slice x cs.length cx] w fun e w' => ∃ F', e = .returned (.int .i64 0) ∧ M w' b key (bs ++ cs) F' ∧ Apart F w w' ∧ ∀ k, F' k → F k ∨ w.heap.size ≤ k
  sum : ∀ (w : World) (b : Nat) (key bs : List UInt8) (F : Nat → Prop), FTab w → KTab w → M w b key bs F → bs.length ≤ 20000 →
    Calls Tryd.prog 18 #[.pointer (some ⟨b, 0, none⟩)] w fun e w' => ∃ d cd r, Hid (r = hmacL key bs) ∧ e = .returned (.tuple #[.slice d r.length cd, .int .i64 0]) ∧ Sees w' d cd r ∧ Below w.heap.size w w'

/-- An append to v, which lies in no block of F. -/
theorem append_off (w : World) (B : Nat) (v : Value) (xs : List UInt8) (ho : w.ownsRow B 5 1 v xs.length (xs.map cellOf)) (x : Option Addr) (cx : Nat) (cs : List UInt8) (hx : Sees w x cx cs) (F : Nat → Prop) (hF : ∀ k, F k → k < w.heap.size) (hv : ∀ k, v.ownBlock = some k → ¬ F k)
    (hb : xs.length + cs.length ≤ 140737488355328) (hbase : B ≤ w.heap.size) :
    ∃ d cd w', (Builtin.append_ #[22, 22] 22 #[v, .slice x cs.length cx]).run Tryd.prog w = .ok (.slice d (xs ++ cs).length cd) w' ∧ w'.ownsRow B 5 1 (.slice d (xs ++ cs).length cd) (xs ++ cs).length ((xs ++ cs).map cellOf) ∧
      (∀ k, (Value.slice d (xs ++ cs).length cd).ownBlock = some k → ¬ F k) ∧ (∀ k, F k → w'.heap[k]? = w.heap[k]?) ∧ (∀ B' a0, Below B' a0 w → B' ≤ B → Below B' a0 w') := by
  obtain ⟨i5, hi, hz0, hz1, hz2⟩ := info_parts Tryd.info5
  by_cases h0 : cs = []
  · subst h0
    obtain ⟨d, cd, rfl, hs⟩ := Sees.of_own ho
    have := run_append_nothing (P := Tryd.prog) w 22 22 22 5 i5 Tryd.underlying22 hi d xs.length cd hs.fits (.slice x 0 cx) (by rw [hz1]; exact hx.src)
    rw [List.append_nil]
    exact ⟨d, cd, w, this, ho, hv, fun _ _ => rfl, fun _ _ h _ => h⟩
  · obtain ⟨ad, rfl⟩ : ∃ ad, x = some ad := by obtain ⟨b, off, h, _⟩ := hx.at' h0; exact ⟨_, h⟩
    obtain ⟨v', w', hrun, ho', hg, _, h5⟩ := run_append_own_at (P := Tryd.prog) w B 22 22 5 i5 (.int .u8 0) 1 1 Tryd.underlying22 hi hz0 hz1 hz2 rfl (by omega) v xs.length (xs.map cellOf) ho ad cs.length cx (cs.map cellOf) (by simp) (hx.news ad rfl) (bytes_oneCell cs) (by unfold maxLen; omega) (by omega) hbase
    have ho2 : w'.ownsRow B 5 1 v' (xs ++ cs).length ((xs ++ cs).map cellOf) := by simpa using ho'
    obtain ⟨d, cd, rfl, _⟩ := Sees.of_own ho2
    refine ⟨d, cd, w', hrun, ho2, fun k hk hf => ?_, fun k hf => hg.block k (hF k hf) (fun h => hv k h.symm hf), fun B' a0 h hB => h.grown hg (Nat.le_trans hB hbase) (fun k hk => Nat.le_trans hB (ho.lt _ hk).1)⟩
    rcases h5 with h5 | h5
    · exact hv k (by rw [← h5]; exact hk) hf
    · rw [h5] at hk
      have := Option.some.inj hk
      have := hF k hf
      omega

theorem row_off {w w' : World} {B n : Nat} {v : Value} {xs : List Value} {F : Nat → Prop} (h : w.ownsRow B 5 1 v n xs) (hv : ∀ k, v.ownBlock = some k → ¬ F k) (ha : Apart F w w') : w'.ownsRow B 5 1 v n xs :=
  own_keep h fun g hg hl => ha.block g hl (hv g hg)

set_option maxHeartbeats 8000000 in
set_option maxRecDepth 20000 in
theorem hcuts_walk' (M : World → Nat → List UInt8 → List UInt8 → (Nat → Prop) → Prop) (HM : MacSpec M) (HOF : HofOk) (HAW : AwakeAny) (a : Option Addr) (ca : Nat) (key : List UInt8) (b : Option Addr) (cb : Nat) (L : List (List UInt8)) (w : World) (hTab : FTab w ∧ KTab w) (ha : Sees w a ca key) (_ : ca ≤ 140737488351232) (hr : Rowss w b cb L) (_ : True) :
    Calls Tryd.prog 6 #[.slice a key.length ca, .slice b L.length cb] w fun e w' => e = .returned (.bool true) ∧ Below w.heap.size w w' := by
  have HF : Hid (FTab w) := hTab.1
  have HK : Hid (KTab w) := hTab.2
  have HA : Hid (Sees w a ca key) := ha
  have HRR : Hid (Rowss w b cb L) := hr
  have hlm : L.length ≤ 9223372036854775807 := by have := hr.fits; have := hr.room; unfold maxLen at this; omega
  by_cases hbig : 2000 < key.length
  · have haw := HAW w hTab.1 hTab.2
    have hkm : key.length ≤ 9223372036854775807 := by have := ha.fits; have := ha.room; unfold maxLen at this; omega
    clear hTab ha hr
    go_enter Tryd.func6, Tryd.ntmps6
    go_wp2_with fail
    refine haw.mono ?_
    rintro e w' ⟨rfl, hbl⟩
    go_wp2
    go_ret
    exact ⟨rfl, hbl⟩
  have hk : key.length ≤ 2000 := by omega
  have d1 : decide ((2000 : Int) < (key.length : Int)) = false := by simp; omega
  have hnew := HM.new w a ca key hTab.1 hTab.2 ha hk
  clear hTab ha hr hbig
  go_enter Tryd.func6, Tryd.ntmps6
  go_wp2_with fail
  refine hnew.mono ?_
  rintro e w1 ⟨m, F, rfl, hM1, hb1, hF1⟩
  have own1 : w1.ownsRow w.heap.size 5 1 (.slice none 0 0) ([] : List UInt8).length (([] : List UInt8).map cellOf) := World.ownsRow_nil _ _ _ _
  have hv1 : ∀ k, (Value.slice none 0 0).ownBlock = some k → ¬ F k := fun k h => by simp [Value.ownBlock] at h
  have HSt : Hid (∃ F : Nat → Prop, M w1 m key [] F ∧ (∀ k, F k → w.heap.size ≤ k) ∧ ∀ k, (Value.slice none ([] : List UInt8).length 0).ownBlock = some k → ¬ F k) := ⟨F, hM1, hF1, hv1⟩
  clear hnew hM1 hF1 hv1
  go_wp2
  go_loopw [7, 8] (fun v i wr => ∃ (k : Nat) (acc : List UInt8) (d : Option Addr) (cd : Nat), k ≤ L.length ∧ k ≤ 10 ∧ i = .int .i64 k ∧ v = .slice d acc.length cd ∧ acc.length ≤ 1000 * k ∧
      wr.ownsRow w.heap.size 5 1 (.slice d acc.length cd) acc.length (acc.map cellOf) ∧ Hid (∃ F : Nat → Prop, M wr m key acc F ∧ (∀ k, F k → w.heap.size ≤ k) ∧ ∀ k, (Value.slice d acc.length cd).ownBlock = some k → ¬ F k) ∧ Below w.heap.size w wr)
    (fun _ i _ => 10 - (intOf i).toNat)
  case atStart => exact ⟨0, [], none, 0, Nat.zero_le _, by omega, rfl, rfl, by simp, own1, HSt, hb1⟩
  case round =>
    obtain ⟨k, acc, d, cd, hkL, hk10, rfl, rfl, hal, own, hst, bel⟩ := hrel
    clear own1 HSt hb1
    by_cases hlt : k < L.length ∧ k < 10
    · obtain ⟨hlt1, hlt2⟩ := hlt
      obtain ⟨p, hp⟩ : ∃ p, L[k]? = some p := ⟨L[k], by simp [hlt1]⟩
      obtain ⟨rb, ro, rfl, x, cx, hcell, hsee⟩ := HRR.out.at' k p hp
      have hlt5 : rb < w.heap.size := World.block_lt_of_cell? w _ hcell
      have hcellr : wr.cell? ⟨rb, ro + k, none⟩ = some (.slice x p.length cx) := by rw [bel.cell (p := ⟨rb, ro + k, none⟩) hlt5]; exact hcell
      have hpm : p.length ≤ 9223372036854775807 := by have := hsee.fits; have := hsee.room; unfold maxLen at this; omega
      have t1 : decide ((k : Int) < (L.length : Int)) = true := by simp; omega
      have t2 : decide ((k : Int) < 10) = true := by simp; omega
      clear hp
      by_cases hbig : 1000 < p.length
      · have haw := HAW wr (HF.out.below bel) (HK.out.below bel)
        clear own hst
        go_wp2_with fail
        refine haw.mono ?_
        rintro e w3 ⟨rfl, hb3⟩
        go_wp2
        go_ret
        exact ⟨rfl, bel.trans (hb3.mono bel.size)⟩
      · have dp : decide ((1000 : Int) < (p.length : Int)) = false := by simp; omega
        have hp1000 : p.length ≤ 1000 := by omega
        obtain ⟨F, hM, hFw, hv⟩ := hst.out
        have hwr := HM.write wr m key acc F x cx p (HF.out.below bel) (HK.out.below bel) hM (hsee.below bel) (by omega)
        have hownlt : ∀ g, (Value.slice d acc.length cd).ownBlock = some g → g < wr.heap.size := fun g h => (own.lt _ h).2
        clear hbig hst
        go_wp2_with fail
        refine hwr.mono ?_
        rintro e w4 ⟨F4, rfl, hM4, hap4, hF4⟩
        have own4 := row_off own hv hap4
        have bel4 := hap4.below bel hFw
        have hFw4 : ∀ k, F4 k → w.heap.size ≤ k := fun k h => by
          rcases hF4 k h with h | h
          · exact hFw k h
          · have := bel.size; omega
        have hv4 : ∀ k, (Value.slice d acc.length cd).ownBlock = some k → ¬ F4 k := fun k h hf => by
          rcases hF4 k hf with h2 | h2
          · exact hv k h h2
          · have := hownlt k h; omega
        have hcell4 : w4.cell? ⟨rb, ro + k, none⟩ = some (.slice x p.length cx) := by rw [bel4.cell (p := ⟨rb, ro + k, none⟩) hlt5]; exact hcell
        obtain ⟨d5, cd5, w5, hrun, own5, hv5, hkeep5, hk5⟩ := append_off w4 w.heap.size _ acc own4 x cx p (hsee.below bel4) F4 (fun k h => HM.lt hM4 k h) hv4 (by omega) bel4.size
        have bel5 := hk5 _ _ bel4 (Nat.le_refl _)
        have hM5 := HM.keep hM4 hkeep5
        obtain ⟨A, hA⟩ : ∃ A, A = acc ++ p := ⟨_, rfl⟩
        rw [← hA] at hrun own5 hv5 hM5
        have hAl : A.length = acc.length + p.length := by rw [hA, List.length_append]
        have HAl : Hid (A.length = acc.length + p.length) := hAl
        have R5 : Hid ((Builtin.append_ #[22, 22] 22 #[.slice d acc.length cd, .slice x p.length cx]).run Tryd.prog w4 = .ok (.slice d5 A.length cd5) w5) := hrun
        have hsum := HM.sum w5 m key A F4 (HF.out.below bel5) (HK.out.below bel5) hM5 (by omega)
        have HS5 : Hid (M w5 m key A F4 ∧ (∀ k, F4 k → w.heap.size ≤ k) ∧ ∀ k, (Value.slice d5 A.length cd5).ownBlock = some k → ¬ F4 k) := ⟨hM5, hFw4, hv5⟩
        clear hwr hrun hap4 own hv own4 hk5 hA hAl hownlt hM hM4 hF4 hFw hFw4 hv4 hkeep5 hM5 hv5
        go_wp2_with (at_builtin; refine wpList_append_run rfl _ _ 22 rfl _ _ _ rfl rfl R5.out ?_)
        refine hsum.mono ?_
        rintro e w6 ⟨d6, c6, r6, hr6, rfl, hs6, hb6⟩
        have own6 := own_below own5 hb6
        have bel6 := bel5.trans (hb6.mono bel5.size)
        obtain ⟨dd, cc, hvv, hse6⟩ := Sees.of_own own6
        simp only [Value.slice.injEq] at hvv
        obtain ⟨rfl, _, rfl⟩ := hvv
        have hof := HOF w6 a ca key d5 cd5 A (HF.out.below bel6) (HK.out.below bel6) (HA.out.below bel6) hse6 hk (by have := HAl.out; omega)
        clear hsum own5 R5
        go_wp2_with fail
        refine hof.mono ?_
        rintro e w7 ⟨d7, c7, r7, hr7, rfl, hs7, hb7⟩
        have own7 := own_below own6 hb7
        have bel7 := bel6.trans (hb7.mono bel6.size)
        have hs67 := hs6.below hb7
        have hrr : r7 = r6 := by rw [hr7.out, hr6.out]
        subst hrr
        have e1 := hs67.convert (P := Tryd.prog) 22 5 9 Tryd.underlying22 Tryd.underlying5 Tryd.underlying9
        have e2 := hs7.convert (P := Tryd.prog) 22 5 9 Tryd.underlying22 Tryd.underlying5 Tryd.underlying9
        have HS7 : Hid (∃ F : Nat → Prop, M w7 m key A F ∧ (∀ k, F k → w.heap.size ≤ k) ∧ ∀ k, (Value.slice d5 A.length cd5).ownBlock = some k → ¬ F k) := by
          obtain ⟨h1, h2, h3⟩ := HS5.out
          exact ⟨F4, HM.keep (HM.keep h1 (fun k h => hb6.block k (HM.lt h1 k h))) (fun k h => hb7.block k (Nat.lt_of_lt_of_le (HM.lt h1 k h) hb6.size)), h2, h3⟩
        clear hof own6 hse6 HS5 hr6 hr7
        go_wp2
        go_roundw
        case rel => exact ⟨k + 1, A, d5, cd5, by omega, by omega, by go_num, rfl, by have := HAl.out; omega, own7, HS7, bel7⟩
        case measure => simp [intOf]; omega
    · have haw := HAW wr (HF.out.below bel) (HK.out.below bel)
      clear own hst
      by_cases h1 : k < L.length
      · have t2 : decide ((k : Int) < 10) = false := by simp; omega
        clear hlt
        go_wp2_with fail
        refine haw.mono ?_
        rintro e w4 ⟨rfl, hb4⟩
        go_wp2
        go_ret
        exact ⟨rfl, bel.trans (hb4.mono bel.size)⟩
      · have t1 : decide ((k : Int) < (L.length : Int)) = false := by simp; omega
        clear hlt
        go_wp2_with fail
        refine haw.mono ?_
        rintro e w4 ⟨rfl, hb4⟩
        go_wp2
        go_ret
        exact ⟨rfl, bel.trans (hb4.mono bel.size)⟩
end Go.Proofs.YtgojemhbkhjffaaDoor
