/-
  The walks of HmacTags, HmacChecks, HmacTurned and HmacFills, out of what package hmac must say.
-/
import Derived.Test.YtgojemhbkhjffaaDoorHmacLaws
namespace Go.Proofs.YtgojemhbkhjffaaDoor
open Go.ChangeShapes Go.WideShapes Go.ChangeAt Go.RowKit

set_option maxHeartbeats 3200000 in
set_option maxRecDepth 20000 in
theorem tags_walk' (HOF : HofOk) (HSH : HshortOk) (HSA : HshortArg) (HAW : AwakeAny) (a : Option Addr) (ca : Nat) (key : List UInt8) (b : Option Addr) (cb : Nat) (bs : List UInt8) (n : Int) (w : World) (hTab : FTab w ∧ KTab w) (ha : Sees w a ca key) (_ : ca ≤ 140737488351232) (hb : Sees w b cb bs) (_ : cb ≤ 140737488351232) (wn : (Lit.int .i64 n).wf = true) :
    Calls Tryd.prog 3 #[.slice a key.length ca, .slice b bs.length cb, .int .i64 n] w fun e w' => e = .returned (.bool true) ∧ Below w.heap.size w w' := by
  by_cases hbig : 2000 < key.length ∨ 2000 < bs.length
  · have haw := HAW w hTab.1 hTab.2
    by_cases h1 : 2000 < key.length
    · clear hbig hTab ha hb
      go_enter Tryd.func3, Tryd.ntmps3
      go_wp2_with fail
      refine haw.mono ?_
      rintro e w' ⟨rfl, hbl⟩
      go_wp2
      go_ret
      exact ⟨rfl, hbl⟩
    · have h2 : 2000 < bs.length := by omega
      have d1 : decide ((2000 : Int) < (key.length : Int)) = false := by simp; omega
      clear hbig hTab ha hb
      go_enter Tryd.func3, Tryd.ntmps3
      go_wp2_with fail
      refine haw.mono ?_
      rintro e w' ⟨rfl, hbl⟩
      go_wp2
      go_ret
      exact ⟨rfl, hbl⟩
  have hk : key.length ≤ 2000 := by omega
  have hl : bs.length ≤ 2000 := by omega
  have d1 : decide ((2000 : Int) < (key.length : Int)) = false := by simp; omega
  have d2 : decide ((2000 : Int) < (bs.length : Int)) = false := by simp; omega
  have HF : Hid (FTab w) := hTab.1
  have HK : Hid (KTab w) := hTab.2
  have HA : Hid (Sees w a ca key) := ha
  have HB : Hid (Sees w b cb bs) := hb
  clear hbig
  have hof := HOF w a ca key b cb bs hTab.1 hTab.2 ha hb hk (by omega)
  clear hTab ha hb
  go_enter Tryd.func3, Tryd.ntmps3
  go_wp2_with fail
  refine hof.mono ?_
  rintro e w1 ⟨x1, c1, r1, hr1, rfl, hs1, hb1⟩
  have hro := rhof_ok w1 a ca key b cb bs (HA.out.below hb1) (HB.out.below hb1) (by omega) (by omega)
  clear hof
  go_wp2_with fail
  refine hro.mono ?_
  rintro e w2 ⟨x2, c2, r2, hr2, rfl, hs2, hb2⟩
  have hb2w := hb1.trans (hb2.mono hb1.size)
  have hrr : r2 = r1 := by rw [hr2.out, hr1.out]
  subst hrr
  have hs12 := hs1.below hb2
  clear hro hr1 hr2 hs1
  by_cases hn : n < 1 ∨ 32 < n
  · have hsh := HSA w2 a ca key.length b cb bs.length n hn
    go_wp2_with fail
    refine hsh.mono ?_
    rintro e w3 ⟨rfl, hb3⟩
    have hb3w := hb2w.trans (hb3.mono hb2w.size)
    have hrs := rhshort_arg w3 a key.length ca b bs.length cb n hn
    clear hsh hn
    go_wp2_with fail
    refine hrs.mono ?_
    rintro e w4 ⟨rfl, hw4⟩
    rw [hw4]
    clear hrs hw4 w4
    have e1 := (hs12.below hb3).convert (P := Tryd.prog) 22 5 9 Tryd.underlying22 Tryd.underlying5 Tryd.underlying9
    have e2 := (hs2.below hb3).convert (P := Tryd.prog) 22 5 9 Tryd.underlying22 Tryd.underlying5 Tryd.underlying9
    have e3 := (Sees.nil' w3).convert (P := Tryd.prog) 22 5 9 Tryd.underlying22 Tryd.underlying5 Tryd.underlying9
    simp only [List.length_nil] at e3
    have haw := HAW w3 (HF.out.below hb3w) (HK.out.below hb3w)
    go_wp2_with fail
    refine haw.mono ?_
    rintro e w5 ⟨rfl, hb5⟩
    clear haw
    go_wp2
    go_ret
    exact ⟨rfl, hb3w.trans (hb5.mono hb3w.size)⟩
  · obtain ⟨m, rfl⟩ : ∃ m : Nat, n = m := ⟨n.toNat, by omega⟩
    have hsh := HSH w2 a ca key b cb bs m (HF.out.below hb2w) (HK.out.below hb2w) (HA.out.below hb2w) (HB.out.below hb2w) hk (by omega) (by omega) (by omega)
    have hm1 : 1 ≤ m := by omega
    have hm2 : m ≤ 32 := by omega
    clear hn
    go_wp2_with fail
    refine hsh.mono ?_
    rintro e w3 ⟨x3, c3, r3, hr3, rfl, hl3, hs3, hb3, _⟩
    have hb3w := hb2w.trans (hb3.mono hb2w.size)
    have hrs := rhshort_ok w3 a ca key b cb bs m (HA.out.below hb3w) (HB.out.below hb3w) (by omega) (by omega) hm1 hm2
    clear hsh
    go_wp2_with fail
    refine hrs.mono ?_
    rintro e w4 ⟨x4, c4, r4, hr4, rfl, hl4, hs4, hb4⟩
    have hb4w := hb3w.trans (hb4.mono hb3w.size)
    have hrr : r4 = r3 := by rw [hr4.out, hr3.out]
    subst hrr
    have e1 := ((hs12.below hb3).below hb4).convert (P := Tryd.prog) 22 5 9 Tryd.underlying22 Tryd.underlying5 Tryd.underlying9
    have e2 := ((hs2.below hb3).below hb4).convert (P := Tryd.prog) 22 5 9 Tryd.underlying22 Tryd.underlying5 Tryd.underlying9
    have e3 := (hs3.below hb4).convert (P := Tryd.prog) 22 5 9 Tryd.underlying22 Tryd.underlying5 Tryd.underlying9
    have e4 := hs4.convert (P := Tryd.prog) 22 5 9 Tryd.underlying22 Tryd.underlying5 Tryd.underlying9
    rw [hl3] at e3 e4
    have haw := HAW w4 (HF.out.below hb4w) (HK.out.below hb4w)
    clear hrs hr3 hr4 hl3 hl4
    go_wp2_with fail
    refine haw.mono ?_
    rintro e w5 ⟨rfl, hb5⟩
    clear haw
    go_wp2
    go_ret
    exact ⟨rfl, hb4w.trans (hb5.mono hb4w.size)⟩

theorem chkL_first (key bs : List UInt8) (m : Nat) (h1 : 1 ≤ m) (h2 : m ≤ 32) : chkL key bs ((hmacL key bs).take m) = decide ((4 : Int) ≤ (m : Int)) := by
  have hl : ((hmacL key bs).take m).length = m := by rw [List.length_take, hmacL_length]; omega
  unfold chkL
  rw [hl]
  have h3 : ((4 : Int) ≤ (m : Int)) ↔ 4 ≤ m := by omega
  by_cases h : 4 ≤ m <;> simp [h, h2, h3]

set_option maxHeartbeats 3200000 in
set_option maxRecDepth 20000 in
theorem checks_walk' (HSH : HshortOk) (HCK : HcheckAny) (HAW : AwakeAny) (a : Option Addr) (ca : Nat) (key : List UInt8) (b : Option Addr) (cb : Nat) (bs : List UInt8) (c : Option Addr) (cc : Nat) (tag : List UInt8) (y : Int) (w : World) (hTab : FTab w ∧ KTab w) (ha : Sees w a ca key) (_ : ca ≤ 140737488351232) (hb : Sees w b cb bs) (_ : cb ≤ 140737488351232) (hc : Sees w c cc tag) (_ : cc ≤ 140737488351232) (wy : (Lit.int .u8 y).wf = true) :
    Calls Tryd.prog 4 #[.slice a key.length ca, .slice b bs.length cb, .slice c tag.length cc, .int .u8 y] w fun e w' => e = .returned (.bool true) ∧ Below w.heap.size w w' := by
  obtain ⟨n, rfl, hn⟩ : ∃ n : Nat, y = n ∧ n < 256 := ⟨y.toNat, by have := bounds_u8 wy; omega, by have := bounds_u8 wy; omega⟩
  have HC : Hid (Sees w c cc tag) := hc
  clear hc wy
  by_cases hbig : 2000 < key.length ∨ 2000 < bs.length
  · have haw := HAW w hTab.1 hTab.2
    by_cases h1 : 2000 < key.length
    · clear hbig hTab ha hb
      go_enter Tryd.func4, Tryd.ntmps4
      go_wp2_with fail
      refine haw.mono ?_
      rintro e w' ⟨rfl, hbl⟩
      go_wp2
      go_ret
      exact ⟨rfl, hbl⟩
    · have h2 : 2000 < bs.length := by omega
      have d1 : decide ((2000 : Int) < (key.length : Int)) = false := by simp; omega
      clear hbig hTab ha hb
      go_enter Tryd.func4, Tryd.ntmps4
      go_wp2_with fail
      refine haw.mono ?_
      rintro e w' ⟨rfl, hbl⟩
      go_wp2
      go_ret
      exact ⟨rfl, hbl⟩
  have hk : key.length ≤ 2000 := by omega
  have hl : bs.length ≤ 2000 := by omega
  have d1 : decide ((2000 : Int) < (key.length : Int)) = false := by simp; omega
  have d2 : decide ((2000 : Int) < (bs.length : Int)) = false := by simp; omega
  have HF : Hid (FTab w) := hTab.1
  have HK : Hid (KTab w) := hTab.2
  have HA : Hid (Sees w a ca key) := ha
  have HB : Hid (Sees w b cb bs) := hb
  clear hbig
  obtain ⟨m, hm⟩ : ∃ m, m = 1 + n % 32 := ⟨_, rfl⟩
  have hm1 : 1 ≤ m := by omega
  have hm2 : m ≤ 32 := by omega
  have em : 1 + (n : Int) % 32 = (m : Int) := by omega
  have em2 : 1 + (n : Int).tmod 32 = (m : Int) := by rw [Int.tmod_eq_emod_of_nonneg (by omega)]; exact em
  have hsh := HSH w a ca key b cb bs m hTab.1 hTab.2 ha hb hk (by omega) hm1 hm2
  clear hTab ha hb hm
  go_enter Tryd.func4, Tryd.ntmps4
  go_wp2_with fail
  refine hsh.mono ?_
  rintro e w1 ⟨x1, c1, r1, hr1, rfl, hl1, hs1, hb1, _⟩
  have hck := HCK w1 a ca key b cb bs x1 c1 r1 (HF.out.below hb1) (HK.out.below hb1) (HA.out.below hb1) (HB.out.below hb1) hs1 hk (by omega)
  rw [hl1, hr1.out, chkL_first key bs m hm1 hm2] at hck
  clear hsh hr1 hs1 hl1 em em2
  go_wp2_with fail
  refine hck.mono ?_
  rintro e w2 ⟨rfl, hb2⟩
  have hb2w := hb1.trans (hb2.mono hb1.size)
  have hck2 := HCK w2 a ca key b cb bs c cc tag (HF.out.below hb2w) (HK.out.below hb2w) (HA.out.below hb2w) (HB.out.below hb2w) (HC.out.below hb2w) hk (by omega)
  obtain ⟨F, hF⟩ : ∃ F, F = chkL key bs tag := ⟨_, rfl⟩
  rw [← hF] at hck2
  clear hck
  go_wp2_with fail
  refine hck2.mono ?_
  rintro e w3 ⟨rfl, hb3⟩
  have hb3w := hb2w.trans (hb3.mono hb2w.size)
  have hrc := rhcheck_any w3 a ca key b cb bs c cc tag (HA.out.below hb3w) (HB.out.below hb3w) (HC.out.below hb3w) hk (by omega)
  rw [← hF] at hrc
  clear hck2 hF
  go_wp2_with fail
  refine hrc.mono ?_
  rintro e w4 ⟨rfl, hb4⟩
  have hb4w := hb3w.trans (hb4.mono hb3w.size)
  have haw := HAW w4 (HF.out.below hb4w) (HK.out.below hb4w)
  clear hrc
  go_wp2_with fail
  refine haw.mono ?_
  rintro e w5 ⟨rfl, hb5⟩
  clear haw
  go_wp2
  go_ret
  exact ⟨rfl, hb4w.trans (hb5.mono hb4w.size)⟩

theorem xor_bit_ne (x : UInt8) (j : Nat) (hj : j < 8) : x ^^^ UInt8.ofNat (2 ^ j) ≠ x := by
  intro h
  have h1 : x ^^^ (x ^^^ UInt8.ofNat (2 ^ j)) = x ^^^ x := by rw [h]
  rw [← UInt8.xor_assoc, UInt8.xor_self, UInt8.zero_xor] at h1
  have hc : j = 0 ∨ j = 1 ∨ j = 2 ∨ j = 3 ∨ j = 4 ∨ j = 5 ∨ j = 6 ∨ j = 7 := by omega
  rcases hc with rfl | rfl | rfl | rfl | rfl | rfl | rfl | rfl <;> exact absurd h1 (by decide)

theorem chkL_turned (key bs : List UInt8) (m i : Nat) (x z : UInt8) (h2 : m ≤ 32) (hx : ((hmacL key bs).take m)[i]? = some x) (hz : z ≠ x) : chkL key bs (((hmacL key bs).take m).set i z) = false := by
  have hl : ((hmacL key bs).take m).length = m := by rw [List.length_take, hmacL_length]; omega
  unfold chkL
  rw [List.length_set, hl]
  have : ¬ (hmacL key bs).take m = ((hmacL key bs).take m).set i z := by
    intro h
    have hi := (List.getElem?_eq_some_iff.1 hx).1
    rw [h, List.getElem?_set_self hi] at hx
    exact hz (Option.some.inj hx)
  simp [this]

theorem Sees.stored {w : World} {g off cap : Nat} {l : List UInt8} (h : Sees w (some ⟨g, off, none⟩) cap l) (i : Nat) (z : UInt8) : Sees (w.setCell ⟨g, off + i, none⟩ (.int .u8 (z.toNat : Int))).drew (some ⟨g, off, none⟩) cap (l.set i z) := by
  refine ⟨by rw [List.length_set]; exact h.fits, h.room, by simp, fun hne => ⟨g, off, rfl, fun j y hy => ?_⟩⟩
  have hlj : j < l.length := by have := (List.getElem?_eq_some_iff.1 hy).1; simpa using this
  obtain ⟨b, o, hh, hc⟩ := h.at' (by intro h0; rw [h0] at hlj; simp at hlj)
  cases hh
  have hcj := hc j l[j] (by simp [hlj])
  by_cases hij : i = j
  · subst hij
    rw [List.getElem?_set_self hlj] at hy
    cases hy
    exact World.cell?_setCell_same w _ _ hcj
  · rw [List.getElem?_set_ne hij] at hy
    have h1 := hc j y hy
    rw [← World.cell?_setCell_other w ⟨g, off + i, none⟩ ⟨g, off + j, none⟩ (.int .u8 (z.toNat : Int)) (by intro h; simp at h <;> omega)] at h1
    exact h1

set_option maxHeartbeats 3200000 in
set_option maxRecDepth 20000 in
theorem turned_walk' (HSH : HshortOk) (HCK : HcheckAny) (HAW : AwakeAny) (a : Option Addr) (ca : Nat) (key : List UInt8) (b : Option Addr) (cb : Nat) (bs : List UInt8) (y : Int) (z : Int) (w : World) (hTab : FTab w ∧ KTab w) (ha : Sees w a ca key) (_ : ca ≤ 140737488351232) (hb : Sees w b cb bs) (_ : cb ≤ 140737488351232) (wy : (Lit.int .u8 y).wf = true) (wz : (Lit.int .u8 z).wf = true) :
    Calls Tryd.prog 5 #[.slice a key.length ca, .slice b bs.length cb, .int .u8 y, .int .u8 z] w fun e w' => e = .returned (.bool true) ∧ Below w.heap.size w w' := by
  obtain ⟨n, rfl, hn⟩ : ∃ n : Nat, y = n ∧ n < 256 := ⟨y.toNat, by have := bounds_u8 wy; omega, by have := bounds_u8 wy; omega⟩
  obtain ⟨p, rfl, hp⟩ : ∃ n : Nat, z = n ∧ n < 256 := ⟨z.toNat, by have := bounds_u8 wz; omega, by have := bounds_u8 wz; omega⟩
  clear wy wz
  by_cases hbig : 2000 < key.length ∨ 2000 < bs.length
  · have haw := HAW w hTab.1 hTab.2
    by_cases h1 : 2000 < key.length
    · clear hbig hTab ha hb
      go_enter Tryd.func5, Tryd.ntmps5
      go_wp2_with fail
      refine haw.mono ?_
      rintro e w' ⟨rfl, hbl⟩
      go_wp2
      go_ret
      exact ⟨rfl, hbl⟩
    · have h2 : 2000 < bs.length := by omega
      have d1 : decide ((2000 : Int) < (key.length : Int)) = false := by simp; omega
      clear hbig hTab ha hb
      go_enter Tryd.func5, Tryd.ntmps5
      go_wp2_with fail
      refine haw.mono ?_
      rintro e w' ⟨rfl, hbl⟩
      go_wp2
      go_ret
      exact ⟨rfl, hbl⟩
  have hk : key.length ≤ 2000 := by omega
  have hl : bs.length ≤ 2000 := by omega
  have d1 : decide ((2000 : Int) < (key.length : Int)) = false := by simp; omega
  have d2 : decide ((2000 : Int) < (bs.length : Int)) = false := by simp; omega
  have HF : Hid (FTab w) := hTab.1
  have HK : Hid (KTab w) := hTab.2
  have HA : Hid (Sees w a ca key) := ha
  have HB : Hid (Sees w b cb bs) := hb
  clear hbig
  obtain ⟨m, hm⟩ : ∃ m, m = 4 + n % 29 := ⟨_, rfl⟩
  have hm1 : 4 ≤ m := by omega
  have hm2 : m ≤ 32 := by omega
  have em : 4 + (n : Int) % 29 = (m : Int) := by omega
  have em2 : 4 + (n : Int).tmod 29 = (m : Int) := by rw [Int.tmod_eq_emod_of_nonneg (by omega)]; exact em
  have hsh := HSH w a ca key b cb bs m hTab.1 hTab.2 ha hb hk (by omega) (by omega) hm2
  clear hTab ha hb hm
  go_enter Tryd.func5, Tryd.ntmps5
  go_wp2_with fail
  refine hsh.mono ?_
  rintro e w1 ⟨x1, c1, r1, hr1, rfl, hl1, hs1, hb1, g, off, rfl, hg, hfz⟩
  obtain ⟨k, hk'⟩ : ∃ k, k = p % (8 * m) := ⟨_, rfl⟩
  have hkm : k < 8 * m := by rw [hk']; exact Nat.mod_lt _ (by omega)
  have ek : (p : Int) % (8 * (m : Int)) = (k : Int) := by rw [hk']; simp
  have ek2 : (p : Int).tmod (8 * (m : Int)) = (k : Int) := by rw [Int.tmod_eq_emod_of_nonneg (by omega)]; exact ek
  obtain ⟨i, hi⟩ : ∃ i, i = k / 8 := ⟨_, rfl⟩
  obtain ⟨j, hj⟩ : ∃ j, j = k % 8 := ⟨_, rfl⟩
  have ei : (k : Int) / 8 = (i : Int) := by omega
  have ei2 : (k : Int).tdiv 8 = (i : Int) := by rw [Int.tdiv_eq_ediv_of_nonneg (by omega)]; exact ei
  have ej : (k : Int) % 8 = (j : Int) := by omega
  have ej2 : (k : Int).tmod 8 = (j : Int) := by rw [Int.tmod_eq_emod_of_nonneg (by omega)]; exact ej
  have him : i < m := by omega
  have hj8 : j < 8 := by omega
  obtain ⟨x, hx⟩ : ∃ x, r1[i]? = some x := ⟨r1[i]'(by omega), by simp [hl1, him]⟩
  obtain ⟨b', o', hh, hcc⟩ := hs1.get hx
  cases hh
  obtain ⟨u, hu⟩ : ∃ u, u = x ^^^ UInt8.ofNat (2 ^ j) := ⟨_, rfl⟩
  have hux : u ≠ x := by rw [hu]; exact xor_bit_ne x j hj8
  have hch : chkL key bs (r1.set i u) = false := by
    rw [hr1.out] at hx ⊢
    exact chkL_turned key bs m i x u hm2 hx hux
  have HCH : Hid (chkL key bs (r1.set i u) = false) := hch
  have hfi := hfz (off + i)
  have HS : Hid (Sees (w1.setCell ⟨g, off + i, none⟩ (.int .u8 (u.toNat : Int))).drew (some ⟨g, off, none⟩) c1 (r1.set i u)) := hs1.stored i u
  have HBL : Hid (Below w.heap.size w (w1.setCell ⟨g, off + i, none⟩ (.int .u8 (u.toNat : Int))).drew) := (hb1.setCell (p := ⟨g, off + i, none⟩) hg _).drew
  have HL1 : Hid ((r1.set i u).length = m) := by rw [List.length_set]; exact hl1
  clear hsh hr1 hs1 hl1 hk' hi hj hch hx hux hfz hb1
  have sh1 : (2 : Int) ^ j = ((2 ^ j : Nat) : Int) := by simp
  have ex : bits .xor .u8 (x.toNat : Int) ((2 ^ j : Nat) : Int) = (u.toNat : Int) := by
    rw [hu]
    have : (UInt8.ofNat (2 ^ j)).toNat = 2 ^ j := by
      rw [UInt8.toNat_ofNat']
      exact Nat.mod_eq_of_lt (Nat.pow_lt_pow_right (a := 2) (n := 8) (by omega) (by omega))
    have h2 := bxor x (UInt8.ofNat (2 ^ j))
    rw [this] at h2; exact h2
  clear hu
  obtain ⟨t, ht⟩ : ∃ t, t = 2 ^ j := ⟨_, rfl⟩
  rw [← ht] at ex sh1
  have ht8 : t < 256 := by rw [ht]; exact Nat.pow_lt_pow_right (a := 2) (n := 8) (by omega) (by omega)
  have hwt : IntKind.u8.wrap (t : Int) = (t : Int) := by rw [IntKind.wrap_u8]; omega
  have g0 : (0 : Int) ≤ (i : Int) := Int.natCast_nonneg _
  have g1 : (i : Int) < (m : Int) := by omega
  have g2 : (0 : Int) ≤ (j : Int) := Int.natCast_nonneg _
  clear ht
  go_wp2
  go_region
  obtain ⟨w2, hw2⟩ : ∃ w2, w2 = (w1.setCell ⟨g, off + i, none⟩ (.int .u8 (u.toNat : Int))).drew := ⟨_, rfl⟩
  rw [← hw2] at HS HBL ⊢
  clear hw2 hcc hfi ex sh1 hwt
  have hck := HCK w2 a ca key b cb bs _ c1 (r1.set i u) (HF.out.below HBL.out) (HK.out.below HBL.out) (HA.out.below HBL.out) (HB.out.below HBL.out) HS.out hk (by omega)
  rw [HL1.out, HCH.out] at hck
  go_wp2_with fail
  refine hck.mono ?_
  rintro e w3 ⟨rfl, hb3⟩
  have hb3w := HBL.out.trans (hb3.mono HBL.out.size)
  have haw := HAW w3 (HF.out.below hb3w) (HK.out.below hb3w)
  clear hck
  go_wp2_with fail
  refine haw.mono ?_
  rintro e w4 ⟨rfl, hb4⟩
  clear haw
  go_wp2
  go_ret
  exact ⟨rfl, hb3w.trans (hb4.mono hb3w.size)⟩

set_option maxHeartbeats 3200000 in
set_option maxRecDepth 20000 in
theorem fills_walk' (HOF : HofOk) (HAW : AwakeAny) (a : Option Addr) (ca : Nat) (key : List UInt8) (b : Option Addr) (cb : Nat) (bs : List UInt8) (y : Int) (w : World) (hTab : FTab w ∧ KTab w) (ha : Sees w a ca key) (_ : ca ≤ 140737488351232) (hb : Sees w b cb bs) (_ : cb ≤ 140737488351232) (wy : (Lit.int .u8 y).wf = true) :
    Calls Tryd.prog 7 #[.slice a key.length ca, .slice b bs.length cb, .int .u8 y] w fun e w' => e = .returned (.bool true) ∧ Below w.heap.size w w' := by
  obtain ⟨n, rfl, hn⟩ : ∃ n : Nat, y = n ∧ n < 256 := ⟨y.toNat, by have := bounds_u8 wy; omega, by have := bounds_u8 wy; omega⟩
  clear wy
  by_cases hbig : 64 < key.length ∨ 2000 < bs.length
  · have haw := HAW w hTab.1 hTab.2
    by_cases h1 : 64 < key.length
    · clear hbig hTab ha hb
      go_enter Tryd.func7, Tryd.ntmps7
      go_wp2_with fail
      refine haw.mono ?_
      rintro e w' ⟨rfl, hbl⟩
      go_wp2
      go_ret
      exact ⟨rfl, hbl⟩
    · have h2 : 2000 < bs.length := by omega
      have d1 : decide ((64 : Int) < (key.length : Int)) = false := by simp; omega
      clear hbig hTab ha hb
      go_enter Tryd.func7, Tryd.ntmps7
      go_wp2_with fail
      refine haw.mono ?_
      rintro e w' ⟨rfl, hbl⟩
      go_wp2
      go_ret
      exact ⟨rfl, hbl⟩
  have hk : key.length ≤ 64 := by omega
  have hl : bs.length ≤ 2000 := by omega
  have d1 : decide ((64 : Int) < (key.length : Int)) = false := by simp; omega
  have d2 : decide ((2000 : Int) < (bs.length : Int)) = false := by simp; omega
  have HF : Hid (FTab w) := hTab.1
  have HK : Hid (KTab w) := hTab.2
  have HA : Hid (Sees w a ca key) := ha
  have HB : Hid (Sees w b cb bs) := hb
  clear hbig
  have hb0 : Below w.heap.size w (w.alloc (.cells #[] 5)) := (Below.refl _ _).alloc (Nat.le_refl _) _
  obtain ⟨v1, w1, hrun1, ho1, hk1⟩ := append_own_any _ w.heap.size _ [] (own_empty w) a ca key (ha.below hb0) (by simp; omega) (by simp)
  rw [List.nil_append] at ho1
  have R1 : Hid ((Builtin.append_ #[22, 22] 22 #[.slice (some ⟨w.heap.size, 0, none⟩) 0 0, .slice a key.length ca]).run Tryd.prog (w.alloc (.cells #[] 5)) = .ok v1 w1) := hrun1
  have hb1 : Below w.heap.size w w1 := hk1 _ _ hb0 (Nat.le_refl _)
  clear hrun1 hk1 hTab ha hb hb0
  go_enter Tryd.func7, Tryd.ntmps7
  go_wp2_with (at_builtin; refine wpList_append_run rfl _ _ 22 rfl _ _ _ rfl rfl R1.out ?_)
  clear R1
  go_loopw [7, 8] (fun v i wr => ∃ k : Nat, k ≤ n ∧ key.length + k ≤ 64 ∧ i = .int .i64 k ∧ wr.ownsRow w.heap.size 5 1 v (key ++ List.replicate k 0).length ((key ++ List.replicate k 0).map cellOf) ∧ Below w.heap.size w wr) (fun _ i _ => 256 - (intOf i).toNat)
  case atStart => exact ⟨0, by omega, by omega, rfl, by simpa using ho1, hb1⟩
  case round =>
    obtain ⟨k, hkn, hk64, rfl, ho, hbl⟩ := hrel
    clear ho1 hb1
    obtain ⟨M, hM⟩ : ∃ M, M = key ++ List.replicate k 0 := ⟨_, rfl⟩
    have hMl : M.length = key.length + k := by rw [hM]; simp
    rw [← hM] at ho
    obtain ⟨d, cd, rfl, hs⟩ := Sees.of_own ho
    by_cases hgo : k < n ∧ M.length < 64
    · obtain ⟨hg1, hg2⟩ := hgo
      have hsx : Sees (wr.alloc (.cells #[.int .u8 0] 5)) (some ⟨wr.heap.size, 0, none⟩) 1 [0] := sees_const wr [0] 5 (0, 0) (by simp)
      obtain ⟨v2, w2, hrun2, ho2, hk2⟩ := append_own_any (wr.alloc (.cells #[.int .u8 0] 5)) w.heap.size _ M (ho.alloc _) _ 1 [0] hsx (by simp; omega) (by have := hbl.size; simp; omega)
      have hb2 : Below w.heap.size w w2 := hk2 _ _ (hbl.alloc hbl.size _) (Nat.le_refl _)
      have HM2 : Hid (M ++ [0] = key ++ List.replicate (k + 1) 0) := by rw [hM, List.replicate_succ', List.append_assoc]; exact rfl
      have HO : Hid (w2.ownsRow w.heap.size 5 1 v2 (key ++ List.replicate (k + 1) 0).length ((key ++ List.replicate (k + 1) 0).map cellOf)) := by rw [← HM2.out]; exact ho2
      have R2 : Hid ((Builtin.append_ #[22, 22] 22 #[.slice d M.length cd, .slice (some ⟨wr.heap.size, 0, none⟩) 1 1]).run Tryd.prog (wr.alloc (.cells #[.int .u8 0] 5)) = .ok v2 w2) := hrun2
      have hlim : key.length + (k + 1) ≤ 64 := by omega
      clear hrun2 ho2 hk2 ho hs hM hMl
      go_wp2_with (at_builtin; refine wpList_append_run rfl _ _ 22 rfl _ _ _ rfl rfl R2.out ?_)
      go_roundw
      case rel => exact ⟨k + 1, by omega, hlim, by go_num, HO.out, hb2⟩
      case measure => simp [intOf]; omega
    · have hof := HOF wr a ca key b cb bs (HF.out.below hbl) (HK.out.below hbl) (HA.out.below hbl) (HB.out.below hbl) (by omega) (by omega)
      have HM : Hid (hmacL M bs = hmacL key bs) := by rw [hM]; exact hmacL_more key bs k hk64
      have HMl : Hid (M.length ≤ 64) := by rw [hMl]; exact hk64
      by_cases hg1 : k < n
      · have hg2 : ¬ M.length < 64 := fun h => hgo ⟨hg1, h⟩
        have dd : decide ((M.length : Int) < 64) = false := by simp; omega
        clear hgo hM hMl ho hg2
        go_wp2_with fail
        refine hof.mono ?_
        rintro e w2 ⟨x2, c2, r2, hr2, rfl, hs2, hb2⟩
        clear hof
        have hb2w := hbl.trans (hb2.mono hbl.size)
        have hof := HOF w2 d cd M b cb bs (HF.out.below hb2w) (HK.out.below hb2w) (hs.below hb2) (HB.out.below hb2w) (by have := HMl.out; omega) (by omega)
        go_wp2_with fail
        refine hof.mono ?_
        rintro e w3 ⟨x3, c3, r3, hr3, rfl, hs3, hb3⟩
        have hb3w := hb2w.trans (hb3.mono hb2w.size)
        have hrr : r3 = r2 := by rw [hr3.out, hr2.out, HM.out]
        subst hrr
        have e1 := (hs2.below hb3).convert (P := Tryd.prog) 22 5 9 Tryd.underlying22 Tryd.underlying5 Tryd.underlying9
        have e2 := hs3.convert (P := Tryd.prog) 22 5 9 Tryd.underlying22 Tryd.underlying5 Tryd.underlying9
        have haw := HAW w3 (HF.out.below hb3w) (HK.out.below hb3w)
        clear hof hr2 hr3 HM
        go_wp2_with fail
        refine haw.mono ?_
        rintro e w4 ⟨rfl, hb4⟩
        clear haw
        go_wp2
        go_ret
        exact ⟨rfl, hb3w.trans (hb4.mono hb3w.size)⟩
      · have dd : decide ((k : Int) < (n : Int)) = false := by simp; omega
        clear hgo hM hMl ho
        go_wp2_with fail
        refine hof.mono ?_
        rintro e w2 ⟨x2, c2, r2, hr2, rfl, hs2, hb2⟩
        clear hof
        have hb2w := hbl.trans (hb2.mono hbl.size)
        have hof := HOF w2 d cd M b cb bs (HF.out.below hb2w) (HK.out.below hb2w) (hs.below hb2) (HB.out.below hb2w) (by have := HMl.out; omega) (by omega)
        go_wp2_with fail
        refine hof.mono ?_
        rintro e w3 ⟨x3, c3, r3, hr3, rfl, hs3, hb3⟩
        have hb3w := hb2w.trans (hb3.mono hb2w.size)
        have hrr : r3 = r2 := by rw [hr3.out, hr2.out, HM.out]
        subst hrr
        have e1 := (hs2.below hb3).convert (P := Tryd.prog) 22 5 9 Tryd.underlying22 Tryd.underlying5 Tryd.underlying9
        have e2 := hs3.convert (P := Tryd.prog) 22 5 9 Tryd.underlying22 Tryd.underlying5 Tryd.underlying9
        have haw := HAW w3 (HF.out.below hb3w) (HK.out.below hb3w)
        clear hof hr2 hr3 HM
        go_wp2_with fail
        refine haw.mono ?_
        rintro e w4 ⟨rfl, hb4⟩
        clear haw
        go_wp2
        go_ret
        exact ⟨rfl, hb3w.trans (hb4.mono hb3w.size)⟩
end Go.Proofs.YtgojemhbkhjffaaDoor
