/-
  The document's reader: its Bytes and End.
-/
import Derived.Test.YtoggjpkbbncbbaaBitsRefS
namespace Go.Proofs.Ytoggjpkbbncbbaa
open Go.ChangeShapes Go.WideShapes Go.ChangeAt Go.RowKit

/-- What Bytes answers, left bits being left. -/
def takeP (left : Nat) (n : Int) : Nat := if n < 0 ∨ 1024 < n then 1 else if (left : Int) < 8 * n then 3 else 0
def takeL (l : List UInt8) (at_ : Nat) (n : Int) : List UInt8 := if takeP (8 * l.length - at_) n = 0 then packL (nextB l at_ (8 * n.toNat)) else []
def takeAt (l : List UInt8) (at_ : Nat) (n : Int) : Nat := if takeP (8 * l.length - at_) n = 0 then at_ + 8 * n.toNat else at_

set_option maxHeartbeats 3200000 in
set_option maxRecDepth 20000 in
theorem rtake_ok (a : Option Addr) (cap : Nat) (l : List UInt8) (w : World) (g at_ : Nat) (G : Nat → Prop) (h : RR a cap l w g at_ G) (hs : Sees w a cap l) (hsn : ∀ b off, a = some ⟨b, off, none⟩ → l ≠ [] → ¬ G b) (hsl : ∀ b off, a = some ⟨b, off, none⟩ → l ≠ [] → b < w.heap.size) (hl : l.length ≤ 140737488355328) (n : Nat) (hn : n ≤ 1024) (hat : at_ + 8 * n ≤ 8 * l.length) :
    Calls Try.prog 81 #[.pointer (some ⟨g, 0, none⟩), .int .i64 (n : Int)] w fun e w' => ∃ d cd r, Hid (r = packL (nextB l at_ (8 * n))) ∧ e = .returned (.tuple #[.slice d r.length cd, .int .i64 0]) ∧ Sees w' d cd r ∧ Left (RR a cap l) w G g (at_ + 8 * n) w' := by
  have hlf := rleft_any a cap l w g at_ G h hl (by omega)
  obtain ⟨R, hR⟩ : ∃ R, R = 8 * l.length - at_ := ⟨_, rfl⟩
  rw [← hR] at hlf
  have hVR : 8 * n ≤ R := by omega
  have hRm : R ≤ 9223372036854775807 := by omega
  have HH : Hid (RR a cap l w g at_ G) := h
  have HS : Hid (Sees w a cap l) := hs
  have HSN : Hid (∀ b off, a = some ⟨b, off, none⟩ → l ≠ [] → ¬ G b) := hsn
  have HSL : Hid (∀ b off, a = some ⟨b, off, none⟩ → l ≠ [] → b < w.heap.size) := hsl
  clear h hs hsn hR hsl
  go_enter Try.func81, Try.ntmps81
  go_wp2_with fail
  refine hlf.mono ?_
  rintro e w1 ⟨rfl, m, hm⟩
  have HL0 : Hid (Left (RR a cap l) w G g (at_ + 8 * 0) w1) := by
    rw [hm]; exact ⟨G, (rr_kept a cap l).keep HH.out (fun _ _ => rfl), ⟨rfl, rfl, rfl, Nat.le_refl _, fun _ _ _ => rfl⟩, fun _ h => .inl h⟩
  have own0 : w1.ownsRow w.heap.size 5 1 (.slice none 0 0) ([] : List UInt8).length (([] : List UInt8).map cellOf) := World.ownsRow_nil _ _ _ _
  clear hlf hm
  go_wp2
  go_loopw [6, 7, 8, 9] (fun v i _ _ wr => ∃ (k : Nat) (acc : List UInt8) (d : Option Addr) (cd : Nat), k ≤ n ∧ i = .int .i64 k ∧ v = .slice d acc.length cd ∧ Hid (acc = packL (nextB l at_ (8 * k))) ∧ Hid (acc.length = k) ∧ wr.ownsRow w.heap.size 5 1 (.slice d acc.length cd) acc.length (acc.map cellOf) ∧
      Hid (∃ G1, RR a cap l wr g (at_ + 8 * k) G1 ∧ Apart G w wr ∧ (∀ i, G1 i → G i ∨ w.heap.size ≤ i) ∧ ∀ q, (Value.slice d acc.length cd).ownBlock = some q → ¬ G1 q)) (fun _ i _ _ _ => n - (intOf i).toNat)
  case atStart =>
    obtain ⟨G1, h1, h2, h3⟩ := HL0.out
    exact ⟨0, [], none, 0, Nat.zero_le _, rfl, rfl, by rw [show nextB l at_ (8 * 0) = [] from by simp [nextB]]; exact rfl, rfl, own0, G1, h1, h2, h3, fun q h => by simp [Value.ownBlock] at h⟩
  case round =>
    obtain ⟨k, acc, d, cd, hk, rfl, rfl, hacc, hal, own, hst⟩ := hrel
    clear HL0 own0
    by_cases hlt : k < n
    · obtain ⟨G1, hr, hap, hG1, hq⟩ := hst.out
      have hs1 := hap.sees HS.out HSN.out
      have hget := rget_ok a cap l wr g (at_ + 8 * k) G1 hr hs1 (fun b off he hne hf => by
        rcases hG1 b hf with h | h
        · exact HSN.out b off he hne h
        · have := HSL.out b off he hne; omega) hl 8 (by omega) (by omega)
      obtain ⟨N, hN⟩ : ∃ N, N = num (nextB l (at_ + 8 * k) 8) := ⟨_, rfl⟩
      rw [← hN] at hget
      have hget2 : Calls Try.prog 66 #[.pointer (some ⟨g, 0, none⟩), .int .i64 8] wr fun e w' => e = .returned (.tuple #[.int .u64 (N : Int), .int .i64 0]) ∧ Left (RR a cap l) wr G1 g (at_ + 8 * k + 8) w' := hget
      have hN8 : N < 256 := by
        rw [hN]
        have h1 := num_lt (nextB l (at_ + 8 * k) 8)
        have h2 : 2 ^ (nextB l (at_ + 8 * k) 8).length ≤ 2 ^ 8 := Nat.pow_le_pow_right (by omega) (nextB_len l _ 8)
        omega
      have HN : Hid (N = num (nextB l (at_ + 8 * k) 8)) := hN
      have hownlt : ∀ q, (Value.slice d acc.length cd).ownBlock = some q → q < wr.heap.size := fun q hq => (own.lt _ hq).2
      clear hget hN hst hs1
      go_wp2_with fail
      refine hget2.mono ?_
      rintro e w2 ⟨rfl, G2, hr2, hap2, hG2⟩
      have own2 : w2.ownsRow w.heap.size 5 1 (.slice d acc.length cd) acc.length (acc.map cellOf) := by
        refine ⟨own.1, ?_⟩
        rcases own.2 with h0 | ⟨q, c2, cur, he, hlow, hqq, h7⟩
        · exact .inl h0
        · refine .inr ⟨q, c2, cur, he, hlow, ?_, h7⟩
          have hob : (Value.slice d acc.length cd).ownBlock = some q := by rw [he]; rfl
          rw [hap2.block q (hownlt q hob) (hq q hob)]; exact hqq
      have hqn : ∀ q, (Value.slice d acc.length cd).ownBlock = some q → ¬ G2 q := fun q h hg => by
        rcases hG2 q hg with h1 | h1
        · exact hq q h h1
        · have := hownlt q h; omega
      obtain ⟨x, hx⟩ : ∃ x : UInt8, x = UInt8.ofNat N := ⟨_, rfl⟩
      have hxN : (x.toNat : Int) = (N : Int) := by rw [hx, UInt8.toNat_ofNat']; simp; omega
      have hsz2 : w.heap.size ≤ w2.heap.size := Nat.le_trans hap.size hap2.size
      have hsx : Sees (w2.alloc (.cells #[.int .u8 (N : Int)] 5)) (some ⟨w2.heap.size, 0, none⟩) 1 [x] := ⟨Nat.le_refl _, by unfold maxLen; simp, by simp, fun _ => ⟨_, 0, rfl, fun i y hy => by
        match i, hy with
        | 0, hy => simp at hy; subst hy; rw [hxN]; exact cell_of_row _ _ 0 _ _ _ (heap_alloc_new w2 _)
        | k + 1, hy => simp at hy⟩⟩
      have hbA : Below w2.heap.size w2 (w2.alloc (.cells #[.int .u8 (N : Int)] 5)) := (Below.refl _ _).alloc (Nat.le_refl _) _
      obtain ⟨i5, hi, hz0, hz1, hz2⟩ := info_parts Try.info5
      have ownA := own_keepB own2 hbA
      obtain ⟨v', w3, hrun, ho', hgr, _, hob⟩ := run_append_own_at (P := Try.prog) (w2.alloc (.cells #[.int .u8 (N : Int)] 5)) w.heap.size 23 23 5 i5 (.int .u8 0) 1 1 Try.underlying23 hi hz0 hz1 hz2 rfl (by omega) (.slice d acc.length cd) acc.length (acc.map cellOf) ownA ⟨w2.heap.size, 0, none⟩ 1 1 ([x].map cellOf) (by simp) (hsx.news _ rfl) (bytes_oneCell [x]) (by have := hal.out; unfold maxLen; omega) (by have := hal.out; omega) (by simp; omega)
      have ho3 : w3.ownsRow w.heap.size 5 1 v' (acc ++ [x]).length ((acc ++ [x]).map cellOf) := by simpa using ho'
      obtain ⟨d3, c3, rfl, _⟩ := Sees.of_own ho3
      obtain ⟨A, hA⟩ : ∃ A, A = acc ++ [x] := ⟨_, rfl⟩
      rw [← hA] at ho3 hrun hob
      have hAl : Hid (A.length = k + 1) := by rw [hA, List.length_append, hal.out]; exact rfl
      have HR : Hid ((Builtin.append_ #[23, 23] 23 #[.slice d acc.length cd, .slice (some ⟨w2.heap.size, 0, none⟩) 1 1]).run Try.prog (w2.alloc (.cells #[.int .u8 (N : Int)] 5)) = .ok (.slice d3 A.length c3) w3) := hrun
      have HAE : Hid (A = packL (nextB l at_ (8 * (k + 1)))) := by rw [hA, hacc.out, hx, HN.out]; exact (pack_step l at_ k (by omega)).symm
      have hsA : (w2.alloc (.cells #[.int .u8 (N : Int)] 5)).heap.size = w2.heap.size + 1 := by simp
      have HST : Hid (∃ G1, RR a cap l w3 g (at_ + 8 * (k + 1)) G1 ∧ Apart G w w3 ∧ (∀ i, G1 i → G i ∨ w.heap.size ≤ i) ∧ ∀ q, (Value.slice d3 A.length c3).ownBlock = some q → ¬ G1 q) := by
        refine ⟨G2, ?_, ?_, ?_, ?_⟩
        · rw [show at_ + 8 * (k + 1) = at_ + 8 * k + 8 by omega]
          refine (rr_kept a cap l).keep hr2 fun q hg => ?_
          have hlt2 := (rr_kept a cap l).lt hr2 q hg
          rw [hgr.block q (by omega) (fun e => hqn q e.symm hg), hbA.block q hlt2]
        · have h1 : Apart G w w2 := hap.trans hap2 hG1
          have h2 : Apart G w (w2.alloc (.cells #[.int .u8 (N : Int)] 5)) := h1.trans (Apart.of_below (F := fun _ => False) hbA) (fun _ h => h.elim)
          exact h2.grown hgr (fun q hq2 => .inr (own.lt _ hq2).1)
        · intro i hi2
          rcases hG2 i hi2 with h | h
          · exact hG1 i h
          · have := hap.size; exact .inr (by omega)
        · intro q hq2 hg
          rcases hob with h | h
          · exact hqn q (by rw [← h]; exact hq2) hg
          · rw [h] at hq2
            have h9 : q = (w2.alloc (.cells #[.int .u8 (N : Int)] 5)).heap.size := by simpa using hq2.symm
            have := (rr_kept a cap l).lt hr2 q hg
            omega
      have wN : IntKind.u8.wrap (N : Int) = (N : Int) := by rw [IntKind.wrap_u8]; omega
      clear hget2 hrun ho' hgr hob hA own own2 ownA hr2 hap2 hG2 hr hap hG1 hq hqn hsx hx hxN hacc hownlt hbA hsA
      go_wp2_with (at_builtin; refine wpList_append_run rfl _ _ 23 rfl _ _ _ rfl rfl HR.out ?_)
      go_roundw
      case rel => exact ⟨k + 1, A, d3, c3, by omega, by go_num, rfl, HAE, hAl, ho3, HST⟩
      case measure => simp [intOf]; omega
    · obtain rfl : k = n := by omega
      obtain ⟨G1, hr, hap, hG1, _⟩ := hst.out
      have HE : Hid (Left (RR a cap l) w G g (at_ + 8 * k) wr) := ⟨G1, hr, hap, hG1⟩
      obtain ⟨d2, c2, hv, hs2⟩ := Sees.of_own own
      simp only [Value.slice.injEq] at hv
      rw [← hv.1, ← hv.2.2] at hs2
      clear hr hap hG1 hv own hst
      go_wp2
      go_ret2
      exact ⟨d, cd, acc, hacc, rfl, hs2, HE.out⟩

set_option maxHeartbeats 1600000 in
set_option maxRecDepth 20000 in
theorem rtake_any (a : Option Addr) (cap : Nat) (l : List UInt8) (w : World) (g at_ : Nat) (G : Nat → Prop) (h : RR a cap l w g at_ G) (hs : Sees w a cap l) (hsn : ∀ b off, a = some ⟨b, off, none⟩ → l ≠ [] → ¬ G b) (hsl : ∀ b off, a = some ⟨b, off, none⟩ → l ≠ [] → b < w.heap.size) (hl : l.length ≤ 140737488355328) (n : Int) (hat : at_ ≤ 8 * l.length) :
    Calls Try.prog 81 #[.pointer (some ⟨g, 0, none⟩), .int .i64 n] w fun e w' => ∃ d cd r, Hid (r = takeL l at_ n) ∧ e = .returned (.tuple #[.slice d r.length cd, .int .i64 ((takeP (8 * l.length - at_) n : Nat) : Int)]) ∧ Sees w' d cd r ∧ Left (RR a cap l) w G g (takeAt l at_ n) w' := by
  have hsame : ∀ m, Left (RR a cap l) w G g at_ (w.drewN m) := fun m => ⟨G, (rr_kept a cap l).keep h (fun _ _ => rfl), ⟨rfl, rfl, rfl, Nat.le_refl _, fun _ _ _ => rfl⟩, fun _ h => .inl h⟩
  by_cases hbad : n < 0 ∨ 1024 < n
  · have e1 : takeP (8 * l.length - at_) n = 1 := by unfold takeP; rw [if_pos hbad]
    have e2 : takeL l at_ n = [] := by unfold takeL; rw [e1]; rfl
    have e3 : takeAt l at_ n = at_ := by unfold takeAt; rw [e1]; rfl
    rw [e1, e2, e3]
    have H0 : Hid (Left (RR a cap l) w G g at_ w) := hsame 0
    clear h hs hsn hsl e1 e2 e3 hsame
    by_cases h0 : n < 0
    · clear hbad
      go_enter Try.func81, Try.ntmps81
      go_wp2
      go_ret2
      exact ⟨none, 0, [], rfl, rfl, Sees.nil' _, H0.out⟩
    · have h64 : 1024 < n := by omega
      clear hbad
      go_enter Try.func81, Try.ntmps81
      go_wp2
      go_ret2
      exact ⟨none, 0, [], rfl, rfl, Sees.nil' _, H0.out⟩
  obtain ⟨V, rfl⟩ : ∃ V : Nat, n = (V : Int) := ⟨n.toNat, by omega⟩
  have hV : V ≤ 1024 := by omega
  by_cases hsh : ((8 * l.length - at_ : Nat) : Int) < 8 * (V : Int)
  · have e1 : takeP (8 * l.length - at_) V = 3 := by unfold takeP; rw [if_neg hbad, if_pos hsh]
    have e2 : takeL l at_ V = [] := by unfold takeL; rw [e1]; rfl
    have e3 : takeAt l at_ V = at_ := by unfold takeAt; rw [e1]; rfl
    rw [e1, e2, e3]
    have hlf := rleft_any a cap l w g at_ G h hl hat
    obtain ⟨R, hR⟩ : ∃ R, R = 8 * l.length - at_ := ⟨_, rfl⟩
    rw [← hR] at hlf hsh
    have hVR : R < 8 * V := by omega
    have hRm : R ≤ 9223372036854775807 := by omega
    have HS0 : Hid (∀ m, Left (RR a cap l) w G g at_ (w.drewN m)) := hsame
    clear h hs hsn hsl e1 e2 e3 hsame hR hsh hbad
    go_enter Try.func81, Try.ntmps81
    go_wp2_with fail
    refine hlf.mono ?_
    rintro e w1 ⟨rfl, m, rfl⟩
    clear hlf
    go_wp2
    go_ret2
    exact ⟨none, 0, [], rfl, rfl, Sees.nil' _, HS0.out m⟩
  · have e1 : takeP (8 * l.length - at_) V = 0 := by unfold takeP; rw [if_neg hbad, if_neg hsh]
    have e2 : takeL l at_ V = packL (nextB l at_ (8 * V)) := by unfold takeL; rw [if_pos e1]; rfl
    have e3 : takeAt l at_ V = at_ + 8 * V := by unfold takeAt; rw [if_pos e1]; rfl
    rw [e1, e2, e3]
    exact rtake_ok a cap l w g at_ G h hs hsn hsl hl V hV (by omega)

/-- What End answers. -/
def endP (l : List UInt8) (at_ : Nat) : Nat := if 7 < 8 * l.length - at_ then 4 else if num (nextB l at_ (8 * l.length - at_)) = 0 then 0 else 4

set_option maxHeartbeats 1600000 in
set_option maxRecDepth 20000 in
theorem rend_any (a : Option Addr) (cap : Nat) (l : List UInt8) (w : World) (g at_ : Nat) (G : Nat → Prop) (h : RR a cap l w g at_ G) (hs : Sees w a cap l) (hsl : ∀ b off, a = some ⟨b, off, none⟩ → l ≠ [] → b < w.heap.size) (hl : l.length ≤ 140737488355328) (hat : at_ ≤ 8 * l.length) :
    Calls Try.prog 38 #[.pointer (some ⟨g, 0, none⟩)] w fun e w' => e = .returned (.int .i64 ((endP l at_ : Nat) : Int)) ∧ Below w.heap.size w w' := by
  obtain ⟨c0, c1, _⟩ := h.cells
  have HS : Hid (Sees w a cap l) := hs
  have HSL : Hid (∀ b off, a = some ⟨b, off, none⟩ → l ≠ [] → b < w.heap.size) := hsl
  clear h hs hsl
  go_enter Try.func38, Try.ntmps38
  go_wp2
  go_region
  obtain ⟨W0, hW0⟩ : ∃ W0, W0 = (w.alloc (.cells #[.slice a l.length cap, .int .i64 (at_ : Int)] 72)).drew := ⟨_, rfl⟩
  have hB0 : Below w.heap.size w W0 := by rw [hW0]; exact ((Below.refl _ _).alloc (Nat.le_refl _) _).drew
  have hsz0 : W0.heap.size = w.heap.size + 1 := by rw [hW0]; simp
  have hr0 : RR a cap l W0 w.heap.size at_ (fun k => k = w.heap.size) := ⟨by rw [hW0]; exact heap_alloc_new w _, rfl, by rintro k rfl; omega⟩
  rw [← hW0]
  have hlf := rleft_any a cap l W0 w.heap.size at_ _ hr0 hl hat
  obtain ⟨R, hR⟩ : ∃ R, R = 8 * l.length - at_ := ⟨_, rfl⟩
  rw [← hR] at hlf
  have HR : Hid (R = 8 * l.length - at_) := hR
  have hRm : R ≤ 9223372036854775807 := by omega
  clear hW0 c0 c1 hR
  go_wp2_with fail
  refine hlf.mono ?_
  rintro e w1 ⟨rfl, m1, hw1⟩
  have hr1 : RR a cap l w1 w.heap.size at_ (fun k => k = w.heap.size) := by rw [hw1]; exact (rr_kept a cap l).keep hr0 (fun _ _ => rfl)
  have hB1 : Below w.heap.size w w1 := by rw [hw1]; exact ⟨hB0.os, hB0.tape, hB0.output, hB0.size, hB0.block⟩
  clear hlf hw1 hr0 hB0 hsz0
  by_cases h7 : 7 < R
  · have e1 : endP l at_ = 4 := by unfold endP; rw [if_pos (by rw [← HR.out]; exact h7)]
    have HE1 : Hid (endP l at_ = 4) := e1
    clear e1 hr1
    go_wp2
    go_ret
    exact ⟨by rw [HE1.out]; rfl, hB1⟩
  · have hlf2 := rleft_any a cap l w1 w.heap.size at_ _ hr1 hl hat
    rw [← HR.out] at hlf2
    go_wp2_with fail
    refine hlf2.mono ?_
    rintro e w2 ⟨rfl, m2, hw2⟩
    have hr2 : RR a cap l w2 w.heap.size at_ (fun k => k = w.heap.size) := by rw [hw2]; exact (rr_kept a cap l).keep hr1 (fun _ _ => rfl)
    have hB2 : Below w.heap.size w w2 := by rw [hw2]; exact ⟨hB1.os, hB1.tape, hB1.output, hB1.size, hB1.block⟩
    have hget := rget_ok a cap l w2 w.heap.size at_ _ hr2 (HS.out.below hB2) (fun b off he hne hf => by have := HSL.out b off he hne; omega) hl R (by omega) (by have := HR.out; omega)
    obtain ⟨Z, hZ⟩ : ∃ Z, Z = num (nextB l at_ R) := ⟨_, rfl⟩
    rw [← hZ] at hget
    have HZ : Hid (Z = num (nextB l at_ R)) := hZ
    clear hlf2 hw2 hr1 hB1 hZ
    go_wp2_with fail
    refine hget.mono ?_
    rintro e w3 ⟨rfl, hL3⟩
    have hB3 := hL3.below hB2 (by rintro k rfl; exact Nat.le_refl _) hB2.size
    clear hget hr2 hL3
    by_cases hz : Z = 0
    · have e1 : endP l at_ = 0 := by unfold endP; rw [if_neg (by rw [← HR.out]; exact h7), if_pos (by rw [← HR.out, ← HZ.out]; exact hz)]
      have HE1 : Hid (endP l at_ = 0) := e1
      clear e1 HZ
      subst hz
      go_wp2
      go_ret
      exact ⟨by rw [HE1.out]; rfl, hB3⟩
    · have e1 : endP l at_ = 4 := by unfold endP; rw [if_neg (by rw [← HR.out]; exact h7), if_neg (by rw [← HR.out, ← HZ.out]; exact hz)]
      have HE1 : Hid (endP l at_ = 4) := e1
      clear e1
      go_wp2
      go_ret
      exact ⟨by rw [HE1.out]; rfl, hB3⟩
end Go.Proofs.Ytoggjpkbbncbbaa
