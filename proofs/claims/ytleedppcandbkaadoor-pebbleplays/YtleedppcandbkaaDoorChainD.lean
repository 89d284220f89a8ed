/-
  What the calls of package chain answer, over plain lists; the contracts of the program's Back, Key, All, Seed, Follows, and of awake.
-/
import Derived.Test.YtleedppcandbkaaDoorChainC
namespace Go.Proofs.YtleedppcandbkaaDoor
open Go.ChangeShapes Go.WideShapes Go.ChangeAt Go.RowKit

def backP (key : List UInt8) (n : Int) : List UInt8 × Nat := if key.length = 16 ∧ 0 ≤ n ∧ n ≤ 256 then (backL n.toNat key, 0) else ([], 1)
def keyC (seed : List UInt8) (n i : Int) : List UInt8 × Nat := if seed.length = 16 ∧ 1 ≤ n ∧ n ≤ 256 ∧ 0 ≤ i ∧ i ≤ n then (backL (n - i).toNat (lastL seed), 0) else ([], 1)
def seedP (own : List UInt8) (e : Int) : List UInt8 × Nat := if own.length = 16 ∧ 0 ≤ e ∧ e ≤ 65535 then (keyOf own epochN [e.toNat], 0) else ([], 1)
def allP (seed : List UInt8) (n : Int) : List (List UInt8) × Nat := if seed.length = 16 ∧ 1 ≤ n ∧ n ≤ 256 then (allL n.toNat (lastL seed), 0) else ([], 1)
def folP (i : Int) (known : List UInt8) (j : Int) (key : List UInt8) : Nat :=
  if 0 ≤ i ∧ i ≤ 256 ∧ 0 ≤ j ∧ j ≤ 256 ∧ known.length = 16 ∧ key.length = 16 then (if j < i then 10 else if backL (j - i).toNat key = known then 0 else 11) else 1

theorem tells16 {w w' : World} {d : Option Addr} {cd : Nat} {r : List UInt8} (hr : r.length = 16) (hs : Sees w' d cd r) (hb : Below w.heap.size w w') : Tells w w' (.returned (.tuple #[.slice d 16 cd, .int .i64 0])) r 0 := ⟨d, cd, by rw [hr]; rfl, hs, hb⟩
theorem tells_no {w w' : World} (hb : Below w.heap.size w w') : Tells w w' (.returned (.tuple #[.slice none 0 0, .int .i64 1])) [] 1 := ⟨none, 0, rfl, Sees.nil' _, hb⟩

/-- An answer of lists of bytes. -/
def RTells (w w' : World) (e : Ending) (L : List (List UInt8)) (q : Nat) : Prop := ∃ d cd, e = .returned (.tuple #[.slice d L.length cd, .int .i64 (q : Int)]) ∧ Rowss w' d cd L ∧ Below w.heap.size w w'
theorem rtells_full {w w' : World} {g n : Nat} {key : List UInt8} (hk : key.length = 16) (hn : n ≤ 256) (hf : Full w' g n key) (hb : Below w.heap.size w w') : RTells w w' (.returned (.tuple #[.slice (some ⟨g, 0, none⟩) (n + 1) (n + 1), .int .i64 0])) (allL n key) 0 :=
  ⟨_, _, by rw [allL_len]; rfl, hf.rows hk hn, hb⟩
theorem rtells_no {w w' : World} (hb : Below w.heap.size w w') : RTells w w' (.returned (.tuple #[.slice none 0 0, .int .i64 1])) [] 1 := ⟨none, 0, rfl, Rowss.nil _, hb⟩

set_option maxHeartbeats 800000 in
theorem back_any (w : World) (a : Option Addr) (ca : Nat) (key : List UInt8) (n : Int) (hF : FTab w) (hT : KTab w) (ha : Sees w a ca key) :
    Calls Tryd.prog 20 #[.slice a key.length ca, .int .i64 n] w fun e w' => Tells w w' e (backP key n).1 (backP key n).2 := by
  have hkm : key.length ≤ 9223372036854775807 := by have := ha.fits; have := ha.room; unfold maxLen at this; omega
  by_cases hg : key.length = 16 ∧ 0 ≤ n ∧ n ≤ 256
  · have hP : backP key n = (backL n.toNat key, 0) := by unfold backP; rw [if_pos hg]
    rw [hP]
    obtain ⟨h16, h0, h1⟩ := hg
    obtain ⟨m, rfl⟩ : ∃ m : Nat, n = (m : Int) := ⟨n.toNat, by omega⟩
    rw [h16, Int.toNat_natCast]
    have k1 := isKey_yes w a ca
    have k2 := isPlace_yes w (m : Int) h0 h1
    have k3 : Calls Tryd.prog 29 #[.int .i64 (m : Int), .slice a 16 ca, .int .i64 0] w _ := reach_ok w a ca key h16 0 m (by omega) (by omega) hF hT ha
    have HL : Hid ((backL m key).length = 16) := backL_len m key h16
    clear hP h0 h1 hF hT ha hkm h16
    go_enter Tryd.func20, Tryd.ntmps20
    go_wp2_with fail
    refine k1.mono ?_
    rintro e w1 ⟨rfl, rfl⟩
    clear k1
    go_wp2_with fail
    refine k2.mono ?_
    rintro e w1 ⟨rfl, rfl⟩
    clear k2
    go_wp2_with fail
    refine k3.mono ?_
    rintro e w3 ⟨d, cd, rfl, hs, hb⟩
    clear k3
    go_wp2
    go_ret2
    exact tells16 HL.out hs hb
  · have hP : backP key n = ([], 1) := by unfold backP; rw [if_neg hg]
    rw [hP]
    by_cases h16 : key.length = 16
    · have k1 := isKey_yes w a ca
      have k2 := isPlace_no w n (by omega)
      rw [h16]
      clear hP hg hF hT ha hkm h16
      go_enter Tryd.func20, Tryd.ntmps20
      go_wp2_with fail
      refine k1.mono ?_
      rintro e w1 ⟨rfl, rfl⟩
      clear k1
      go_wp2_with fail
      refine k2.mono ?_
      rintro e w1 ⟨rfl, rfl⟩
      clear k2
      go_wp2
      go_ret2
      exact tells_no (Below.refl _ _)
    · have k1 := isKey_no w a key.length ca h16 hkm
      clear hP hg hF hT ha h16
      go_enter Tryd.func20, Tryd.ntmps20
      go_wp2_with fail
      refine k1.mono ?_
      rintro e w1 ⟨rfl, rfl⟩
      clear k1
      go_wp2
      go_ret2
      exact tells_no (Below.refl _ _)

set_option maxHeartbeats 800000 in
theorem keyc_any (w : World) (a : Option Addr) (ca : Nat) (seed : List UInt8) (n i : Int) (hF : FTab w) (hT : KTab w) (ha : Sees w a ca seed) :
    Calls Tryd.prog 18 #[.slice a seed.length ca, .int .i64 n, .int .i64 i] w fun e w' => Tells w w' e (keyC seed n i).1 (keyC seed n i).2 := by
  have hkm : seed.length ≤ 9223372036854775807 := by have := ha.fits; have := ha.room; unfold maxLen at this; omega
  by_cases hc : seed.length = 16 ∧ 1 ≤ n ∧ n ≤ 256
  · obtain ⟨h16, h1, h2⟩ := hc
    by_cases hi : 0 ≤ i ∧ i ≤ n
    · obtain ⟨h3, h4⟩ := hi
      have hP : keyC seed n i = (backL (n - i).toNat (lastL seed), 0) := by unfold keyC; rw [if_pos ⟨h16, h1, h2, h3, h4⟩]
      rw [hP]
      obtain ⟨m, rfl⟩ : ∃ m : Nat, n = (m : Int) := ⟨n.toNat, by omega⟩
      obtain ⟨j, rfl⟩ : ∃ j : Nat, i = (j : Int) := ⟨i.toNat, by omega⟩
      rw [h16, show ((m : Int) - (j : Int)).toNat = m - j by omega]
      have k1 := isChain_yes w a ca (m : Int) h1 h2
      have k2 := last_ok w a ca seed hF hT ha h16
      have HF : Hid (FTab w) := hF
      have HT : Hid (KTab w) := hT
      have HJ : Hid (j ≤ m ∧ m ≤ 256) := ⟨by omega, by omega⟩
      have HL : Hid ((backL (m - j) (lastL seed)).length = 16) := backL_len _ _ (lastL_len seed)
      have d1 : decide ((j : Int) < 0) = false := decide_eq_false (by omega)
      have d2 : decide ((m : Int) < (j : Int)) = false := decide_eq_false (by omega)
      have d3 : decide (m < j) = false := decide_eq_false (by omega)
      clear hP h1 h2 h3 h4 hF hT ha hkm h16
      go_enter Tryd.func18, Tryd.ntmps18
      go_wp2_with fail
      refine k1.mono ?_
      rintro e w1 ⟨rfl, rfl⟩
      clear k1
      go_wp2_with fail
      refine k2.mono ?_
      rintro e w2 ⟨d, cd, rfl, hs, hb⟩
      have k3 := reach_ok w2 d cd (lastL seed) (lastL_len seed) j m HJ.out.1 HJ.out.2 (HF.out.below hb) (HT.out.below hb) hs
      clear k2 hs
      go_wp2_with fail
      refine k3.mono ?_
      rintro e w3 ⟨d3, cd3, rfl, hs3, hb3⟩
      clear k3
      go_wp2
      go_ret2
      exact tells16 HL.out hs3 (hb.trans (hb3.mono hb.size))
    · have hP : keyC seed n i = ([], 1) := by unfold keyC; rw [if_neg (by omega)]
      rw [hP, h16]
      have k1 := isChain_yes w a ca n h1 h2
      by_cases h3 : i < 0
      · clear hP hi h1 h2 hF hT ha hkm h16
        go_enter Tryd.func18, Tryd.ntmps18
        go_wp2_with fail
        refine k1.mono ?_
        rintro e w1 ⟨rfl, rfl⟩
        clear k1
        go_wp2
        go_ret2
        exact tells_no (Below.refl _ _)
      · have d1 : decide (i < 0) = false := decide_eq_false h3
        have d2 : n < i := by omega
        clear hP hi h1 h2 h3 hF hT ha hkm h16
        go_enter Tryd.func18, Tryd.ntmps18
        go_wp2_with fail
        refine k1.mono ?_
        rintro e w1 ⟨rfl, rfl⟩
        clear k1
        go_wp2
        go_ret2
        exact tells_no (Below.refl _ _)
  · have hP : keyC seed n i = ([], 1) := by unfold keyC; rw [if_neg (by omega)]
    rw [hP]
    have k1 := isChain_no w a seed.length ca n hkm (by omega)
    clear hP hc hF hT ha
    go_enter Tryd.func18, Tryd.ntmps18
    go_wp2_with fail
    refine k1.mono ?_
    rintro e w1 ⟨rfl, rfl⟩
    clear k1
    go_wp2
    go_ret2
    exact tells_no (Below.refl _ _)

set_option maxHeartbeats 1600000 in
theorem fol_any (w : World) (i : Int) (a : Option Addr) (ca : Nat) (known : List UInt8) (j : Int) (b : Option Addr) (cb : Nat) (key : List UInt8) (hF : FTab w) (hT : KTab w) (ha : Sees w a ca known) (hb : Sees w b cb key) :
    Calls Tryd.prog 17 #[.int .i64 i, .slice a known.length ca, .int .i64 j, .slice b key.length cb] w fun e w' => e = .returned (.int .i64 (folP i known j key : Int)) ∧ Below w.heap.size w w' := by
  have hkm : known.length ≤ 9223372036854775807 := by have := ha.fits; have := ha.room; unfold maxLen at this; omega
  have hym : key.length ≤ 9223372036854775807 := by have := hb.fits; have := hb.room; unfold maxLen at this; omega
  by_cases hi : 0 ≤ i ∧ i ≤ 256
  · have k1 := isPlace_yes w i hi.1 hi.2
    by_cases hj : 0 ≤ j ∧ j ≤ 256
    · have k2 := isPlace_yes w j hj.1 hj.2
      by_cases ha16 : known.length = 16
      · have k3 := isKey_yes w a ca
        by_cases hb16 : key.length = 16
        · have k4 := isKey_yes w b cb
          have hP : folP i known j key = (if j < i then 10 else if backL (j - i).toNat key = known then 0 else 11) := by unfold folP; rw [if_pos ⟨hi.1, hi.2, hj.1, hj.2, ha16, hb16⟩]
          by_cases hlt : j < i
          · rw [hP, if_pos hlt, ha16, hb16]
            clear hP hi hj ha16 hb16 hF hT ha hb hkm hym
            go_enter Tryd.func17, Tryd.ntmps17
            go_wp2_with fail
            refine k1.mono ?_
            rintro e w1 ⟨rfl, rfl⟩
            clear k1
            go_wp2_with fail
            refine k2.mono ?_
            rintro e w1 ⟨rfl, rfl⟩
            clear k2
            go_wp2_with fail
            refine k3.mono ?_
            rintro e w1 ⟨rfl, rfl⟩
            clear k3
            go_wp2_with fail
            refine k4.mono ?_
            rintro e w1 ⟨rfl, rfl⟩
            clear k4
            go_wp2
            go_ret
            exact ⟨rfl, Below.refl _ _⟩
          · obtain ⟨x, rfl⟩ : ∃ x : Nat, i = (x : Int) := ⟨i.toNat, by omega⟩
            obtain ⟨y, rfl⟩ : ∃ y : Nat, j = (y : Int) := ⟨j.toNat, by omega⟩
            have k5 := reach_ok w b cb key hb16 x y (by omega) (by omega) hF hT hb
            rw [hP, if_neg hlt, show ((y : Int) - (x : Int)).toNat = y - x by omega]
            obtain ⟨r, hr⟩ : ∃ r, r = backL (y - x) key := ⟨_, rfl⟩
            have hrl : r.length = 16 := by rw [hr]; exact backL_len _ _ hb16
            rw [← hr] at k5 ⊢
            have HA : Hid (Sees w a ca known) := ha
            have HRL : Hid (r.length = 16) := hrl
            have HKL : Hid (known.length = 16) := ha16
            have d0 : decide ((y : Int) < (x : Int)) = false := decide_eq_false hlt
            have d1 : decide (y < x) = false := decide_eq_false (by omega)
            rw [ha16, hb16]
            clear hP hi hj ha16 hb16 hF hT ha hb hkm hym hlt hr hrl
            by_cases hrk : r = known
            · rw [if_pos hrk]
              go_enter Tryd.func17, Tryd.ntmps17
              go_wp2_with fail
              refine k1.mono ?_
              rintro e w1 ⟨rfl, rfl⟩
              clear k1
              go_wp2_with fail
              refine k2.mono ?_
              rintro e w1 ⟨rfl, rfl⟩
              clear k2
              go_wp2_with fail
              refine k3.mono ?_
              rintro e w1 ⟨rfl, rfl⟩
              clear k3
              go_wp2_with fail
              refine k4.mono ?_
              rintro e w1 ⟨rfl, rfl⟩
              clear k4
              go_wp2_with fail
              refine k5.mono ?_
              rintro e w5 ⟨d5, c5, rfl, hs5, hb5⟩
              have k6 := same_any w5 d5 a c5 ca r known hs5 (HA.out.below hb5)
              rw [HRL.out, HKL.out, decide_eq_true hrk] at k6
              clear k5 hs5
              go_wp2_with fail
              refine k6.mono ?_
              rintro e w6 ⟨rfl, rfl⟩
              clear k6
              go_wp2
              go_ret
              exact ⟨rfl, hb5⟩
            · rw [if_neg hrk]
              go_enter Tryd.func17, Tryd.ntmps17
              go_wp2_with fail
              refine k1.mono ?_
              rintro e w1 ⟨rfl, rfl⟩
              clear k1
              go_wp2_with fail
              refine k2.mono ?_
              rintro e w1 ⟨rfl, rfl⟩
              clear k2
              go_wp2_with fail
              refine k3.mono ?_
              rintro e w1 ⟨rfl, rfl⟩
              clear k3
              go_wp2_with fail
              refine k4.mono ?_
              rintro e w1 ⟨rfl, rfl⟩
              clear k4
              go_wp2_with fail
              refine k5.mono ?_
              rintro e w5 ⟨d5, c5, rfl, hs5, hb5⟩
              have k6 := same_any w5 d5 a c5 ca r known hs5 (HA.out.below hb5)
              rw [HRL.out, HKL.out, decide_eq_false hrk] at k6
              clear k5 hs5
              go_wp2_with fail
              refine k6.mono ?_
              rintro e w6 ⟨rfl, rfl⟩
              clear k6
              go_wp2
              go_ret
              exact ⟨rfl, hb5⟩
        · have hP : folP i known j key = 1 := by unfold folP; rw [if_neg (fun h => hb16 h.2.2.2.2.2)]
          have k4 := isKey_no w b key.length cb hb16 hym
          rw [hP, ha16]
          clear hP hi hj ha16 hb16 hF hT ha hb hkm
          go_enter Tryd.func17, Tryd.ntmps17
          go_wp2_with fail
          refine k1.mono ?_
          rintro e w1 ⟨rfl, rfl⟩
          clear k1
          go_wp2_with fail
          refine k2.mono ?_
          rintro e w1 ⟨rfl, rfl⟩
          clear k2
          go_wp2_with fail
          refine k3.mono ?_
          rintro e w1 ⟨rfl, rfl⟩
          clear k3
          go_wp2_with fail
          refine k4.mono ?_
          rintro e w1 ⟨rfl, rfl⟩
          clear k4
          go_wp2
          go_ret
          exact ⟨rfl, Below.refl _ _⟩
      · have hP : folP i known j key = 1 := by unfold folP; rw [if_neg (fun h => ha16 h.2.2.2.2.1)]
        have k3 := isKey_no w a known.length ca ha16 hkm
        rw [hP]
        clear hP hi hj ha16 hF hT ha hb
        go_enter Tryd.func17, Tryd.ntmps17
        go_wp2_with fail
        refine k1.mono ?_
        rintro e w1 ⟨rfl, rfl⟩
        clear k1
        go_wp2_with fail
        refine k2.mono ?_
        rintro e w1 ⟨rfl, rfl⟩
        clear k2
        go_wp2_with fail
        refine k3.mono ?_
        rintro e w1 ⟨rfl, rfl⟩
        clear k3
        go_wp2
        go_ret
        exact ⟨rfl, Below.refl _ _⟩
    · have hP : folP i known j key = 1 := by unfold folP; rw [if_neg (fun h => hj ⟨h.2.2.1, h.2.2.2.1⟩)]
      have k2 := isPlace_no w j (by omega)
      rw [hP]
      clear hP hi hj hF hT ha hb
      go_enter Tryd.func17, Tryd.ntmps17
      go_wp2_with fail
      refine k1.mono ?_
      rintro e w1 ⟨rfl, rfl⟩
      clear k1
      go_wp2_with fail
      refine k2.mono ?_
      rintro e w1 ⟨rfl, rfl⟩
      clear k2
      go_wp2
      go_ret
      exact ⟨rfl, Below.refl _ _⟩
  · have hP : folP i known j key = 1 := by unfold folP; rw [if_neg (fun h => hi ⟨h.1, h.2.1⟩)]
    have k1 := isPlace_no w i (by omega)
    rw [hP]
    clear hP hi hF hT ha hb
    go_enter Tryd.func17, Tryd.ntmps17
    go_wp2_with fail
    refine k1.mono ?_
    rintro e w1 ⟨rfl, rfl⟩
    clear k1
    go_wp2
    go_ret
    exact ⟨rfl, Below.refl _ _⟩

end Go.Proofs.YtleedppcandbkaaDoor
