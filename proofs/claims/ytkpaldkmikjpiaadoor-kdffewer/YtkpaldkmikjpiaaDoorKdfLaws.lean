/-
  What package kdf must say, as propositions; the statements' walks out of them.
-/
import Derived.Test.YtkpaldkmikjpiaaDoorKdfRef
import Derived.Test.YtkpaldkmikjpiaaDoorTabs
namespace Go.Proofs.YtkpaldkmikjpiaaDoor
open Go.ChangeShapes Go.WideShapes Go.ChangeAt Go.RowKit

def KexpandOk : Prop := ∀ (w : World) (a : Option Addr) (ca : Nat) (key : List UInt8) (b : Option Addr) (cb : Nat) (info : List UInt8) (n : Int), FTab w → KTab w → Sees w a ca key → Sees w b cb info → key.length ≤ 2000 →
  Calls Tryd.prog 10 #[.slice a key.length ca, .slice b info.length cb, .int .i64 n] w fun e w' => Says w w' e (expandP key info n)
def KextractOk : Prop := ∀ (w : World) (a : Option Addr) (ca : Nat) (salt : List UInt8) (b : Option Addr) (cb : Nat) (bs : List UInt8), FTab w → KTab w → Sees w a ca salt → Sees w b cb bs → salt.length ≤ 2000 → bs.length ≤ 2000 →
  Calls Tryd.prog 12 #[.slice a salt.length ca, .slice b bs.length cb] w fun e w' => Says w w' e (hmacL salt bs, 0)
def KkeyOk : Prop := ∀ (w : World) (a : Option Addr) (ca : Nat) (key : List UInt8) (name : List UInt8) (c : Option Addr) (cc : Nat) (l : List Nat), name.length ≤ 9223372036854775807 → FTab w → KTab w → Sees w a ca key → Longs w c cc l →
  Calls Tryd.prog 14 #[.slice a key.length ca, .string ⟨name.toArray⟩, .slice c l.length cc] w fun e w' => Says w w' e (keyP key name l)
def KpairOk : Prop := ∀ (w : World) (a : Option Addr) (ca : Nat) (key : List UInt8) (i j : Int), FTab w → KTab w → Sees w a ca key → Calls Tryd.prog 16 #[.slice a key.length ca, .int .i64 i, .int .i64 j] w fun e w' => Says w w' e (pairP key i j)
def KownOk : Prop := ∀ (w : World) (a : Option Addr) (ca : Nat) (key : List UInt8) (i : Int), FTab w → KTab w → Sees w a ca key → Calls Tryd.prog 18 #[.slice a key.length ca, .int .i64 i] w fun e w' => Says w w' e (ownP key i)
def KstepOk : Prop := ∀ (w : World) (a : Option Addr) (ca : Nat) (key : List UInt8), FTab w → KTab w → Sees w a ca key → Calls Tryd.prog 20 #[.slice a key.length ca] w fun e w' => Says w w' e (stepP key)
def KmacOk : Prop := ∀ (w : World) (a : Option Addr) (ca : Nat) (key : List UInt8), FTab w → KTab w → Sees w a ca key → Calls Tryd.prog 22 #[.slice a key.length ca] w fun e w' => Says w w' e (macP key)
def KawakeOk : Prop := ∀ w : World, FTab w → KTab w → Calls Tryd.prog 9 #[] w fun e w' => e = .returned (.bool true) ∧ Below w.heap.size w w'

theorem labels : labelL pairN = true ∧ labelL ownN = true ∧ labelL chainN = true ∧ labelL macN = true := by decide +kernel

theorem keyP_ok (key name : List UInt8) (l : List Nat) (h1 : labelL name = true) (h2 : l.length ≤ 16) (h3 : key.length ≤ 1000) : keyP key name l = (keyOf key name l, 0) := by
  unfold keyP; rw [if_neg (by simp [h1]; omega), if_neg (by omega)]

theorem keyP_len (key name : List UInt8) (l : List Nat) (h : (keyP key name l).2 = 0) : (keyP key name l).1.length = 16 := by
  unfold keyP at h ⊢
  by_cases h1 : labelL name = false ∨ 16 < l.length
  · rw [if_pos h1] at h; simp at h
  · rw [if_neg h1] at h ⊢
    by_cases h2 : 1000 < key.length
    · rw [if_pos h2] at h; simp at h
    · rw [if_neg h2]; exact keyOf_length _ _ _

set_option maxHeartbeats 800000 in
set_option maxRecDepth 20000 in
theorem awake4 (HST : KstepOk) : KawakeOk := by
  intro w hF hT
  obtain ⟨i5, hi, hz0, hz1, hz2⟩ := info_parts Tryd.info5
  have HF : Hid (FTab w) := hF
  have HK : Hid (KTab w) := hT
  clear hF hT
  go_enter Tryd.func9, Tryd.ntmps9
  go_wp2_with (at_make; refine wpList_make_full _ rfl _ _ 22 rfl w.heap.size 5 i5 (.int .u8 0) 1 Tryd.underlying22 hi hz0 hz1 .i64 .i64 _ _ 16 rfl rfl rfl rfl ?b2 ?b3 ?b4 ?_)
  case b2 => rw [hz2]; omega
  case b3 => unfold maxLen; omega
  case b4 => exact Nat.le_refl _
  intro w1 hown hgrow
  have hbel : Below w.heap.size w w1 := (Below.refl _ _).grown hgrow (Nat.le_refl _) (by intro k h; cases h)
  have ho : w1.ownsRow w.heap.size 5 1 (.slice (some ⟨w.heap.size, 0, none⟩) 16 16) 16 ((List.replicate 16 (0 : UInt8)).map cellOf) := by rw [← made_bytes]; simpa using hown
  obtain ⟨d, cd, hv, hs⟩ := Sees.of_own ho
  simp only [Value.slice.injEq] at hv
  rw [← hv.1, ← hv.2.2] at hs
  have hst : Calls Tryd.prog 20 #[.slice (some ⟨w.heap.size, 0, none⟩) 16 16] w1 _ := HST w1 _ 16 (List.replicate 16 0) (HF.out.below hbel) (HK.out.below hbel) hs
  have hE : stepP (List.replicate 16 0) = (keyOf (List.replicate 16 0) chainN [], 0) := by
    unfold stepP; rw [if_pos (by simp), keyP_ok _ _ _ labels.2.2.1 (by simp) (by simp)]
  rw [hE] at hst
  clear hown hgrow ho hv hs hE
  go_wp2_with fail
  refine hst.mono ?_
  rintro e w2 ⟨d2, c2, r2, hr2, rfl, hs2, hb2⟩
  have hl2 : r2.length = 16 := by rw [hr2.out]; exact keyOf_length _ _ _
  rw [hl2]
  clear hst hr2 hs2 hl2
  go_wp2
  go_ret
  exact ⟨rfl, hbel.trans (hb2.mono hbel.size)⟩

set_option maxHeartbeats 800000 in
set_option maxRecDepth 20000 in
theorem rextract_any (w : World) (a : Option Addr) (ca : Nat) (salt : List UInt8) (b : Option Addr) (cb : Nat) (bs : List UInt8) (ha : Sees w a ca salt) (hb : Sees w b cb bs) (hk : salt.length ≤ 2000) (hl : bs.length ≤ 2000) :
    Calls Tryd.prog 13 #[.slice a salt.length ca, .slice b bs.length cb] w fun e w' => Says w w' e (hmacL salt bs, 0) := by
  have hof := rhof_ok w a ca salt b cb bs ha hb (by omega) (by omega)
  clear ha hb
  go_enter Tryd.func13, Tryd.ntmps13
  go_wp2_with fail
  refine hof.mono ?_
  rintro e w1 ⟨x1, c1, r1, hr1, rfl, hs1, hb1⟩
  clear hof
  go_wp2
  go_ret2
  exact ⟨x1, c1, r1, hr1, rfl, hs1, hb1⟩

set_option maxHeartbeats 1600000 in
set_option maxRecDepth 20000 in
theorem extracts_walk' (HEX : KextractOk) (HAW : KawakeOk) (a : Option Addr) (ca : Nat) (key : List UInt8) (b : Option Addr) (cb : Nat) (bs : List UInt8) (w : World) (hTab : FTab w ∧ KTab w) (ha : Sees w a ca key) (_ : ca ≤ 140737488351232) (hb : Sees w b cb bs) (_ : cb ≤ 140737488351232) :
    Calls Tryd.prog 4 #[.slice a key.length ca, .slice b bs.length cb] w fun e w' => e = .returned (.bool true) ∧ Below w.heap.size w w' := by
  by_cases hbig : 2000 < key.length ∨ 2000 < bs.length
  · have haw := HAW w hTab.1 hTab.2
    by_cases h1 : 2000 < key.length
    · clear hbig hTab ha hb
      go_enter Tryd.func4, Tryd.ntmps4
      go_wp2_with fail
      refine haw.mono ?_
      rintro e w' ⟨rfl, hbl⟩
      go_wp2
      go_ret
      exact ⟨rfl, hbl⟩
    · have h2 : 2000 < bs.length := by omega
      have d1 : decide ((2000 : Int) < (key.length : Int)) = false := by simp; omega
      clear hbig hTab ha hb
      go_enter Tryd.func4, Tryd.ntmps4
      go_wp2_with fail
      refine haw.mono ?_
      rintro e w' ⟨rfl, hbl⟩
      go_wp2
      go_ret
      exact ⟨rfl, hbl⟩
  have d1 : decide ((2000 : Int) < (key.length : Int)) = false := by simp; omega
  have d2 : decide ((2000 : Int) < (bs.length : Int)) = false := by simp; omega
  have HF : Hid (FTab w) := hTab.1
  have HK : Hid (KTab w) := hTab.2
  have HA : Hid (Sees w a ca key) := ha
  have HB : Hid (Sees w b cb bs) := hb
  have hk : key.length ≤ 2000 := by omega
  have hl : bs.length ≤ 2000 := by omega
  have h1 := HEX w a ca key b cb bs hTab.1 hTab.2 ha hb hk hl
  clear hbig hTab ha hb
  go_enter Tryd.func4, Tryd.ntmps4
  go_wp2_with fail
  refine h1.mono ?_
  rintro e w1 ⟨x1, c1, r1, hr1, rfl, hs1, hb1⟩
  have h2 := rextract_any w1 a ca key b cb bs (HA.out.below hb1) (HB.out.below hb1) hk hl
  clear h1
  go_wp2_with fail
  refine h2.mono ?_
  rintro e w2 ⟨x2, c2, r2, hr2, rfl, hs2, hb2⟩
  have hb2w := hb1.trans (hb2.mono hb1.size)
  have hrr : r2 = r1 := by rw [hr2.out, hr1.out]
  subst hrr
  have e1 := (hs1.below hb2).convert (P := Tryd.prog) 22 5 9 Tryd.underlying22 Tryd.underlying5 Tryd.underlying9
  have e2 := hs2.convert (P := Tryd.prog) 22 5 9 Tryd.underlying22 Tryd.underlying5 Tryd.underlying9
  have haw := HAW w2 (HF.out.below hb2w) (HK.out.below hb2w)
  clear h2 hr1 hr2
  go_wp2_with fail
  refine haw.mono ?_
  rintro e w5 ⟨rfl, hb5⟩
  clear haw
  go_wp2
  go_ret
  exact ⟨rfl, hb2w.trans (hb5.mono hb2w.size)⟩

set_option maxHeartbeats 1600000 in
set_option maxRecDepth 20000 in
theorem expands_walk' (HEX : KexpandOk) (HAW : KawakeOk) (a : Option Addr) (ca : Nat) (key : List UInt8) (b : Option Addr) (cb : Nat) (bs : List UInt8) (n : Int) (w : World) (hTab : FTab w ∧ KTab w) (ha : Sees w a ca key) (_ : ca ≤ 140737488351232) (hb : Sees w b cb bs) (_ : cb ≤ 140737488351232) (_wn : (Lit.int .i64 n).wf = true) :
    Calls Tryd.prog 3 #[.slice a key.length ca, .slice b bs.length cb, .int .i64 n] w fun e w' => e = .returned (.bool true) ∧ Below w.heap.size w w' := by
  by_cases hbig : 2000 < key.length ∨ 2000 < n ∧ n ≤ 8160
  · have haw := HAW w hTab.1 hTab.2
    by_cases h1 : 2000 < key.length
    · clear hbig hTab ha hb
      go_enter Tryd.func3, Tryd.ntmps3
      go_wp2_with fail
      refine haw.mono ?_
      rintro e w' ⟨rfl, hbl⟩
      go_wp2
      go_ret
      exact ⟨rfl, hbl⟩
    · have h2 : 2000 < n := by omega
      have h3 : n ≤ 8160 := by omega
      have d1 : decide ((2000 : Int) < (key.length : Int)) = false := by simp; omega
      clear hbig hTab ha hb
      go_enter Tryd.func3, Tryd.ntmps3
      go_wp2_with fail
      refine haw.mono ?_
      rintro e w' ⟨rfl, hbl⟩
      go_wp2
      go_ret
      exact ⟨rfl, hbl⟩
  have d1 : decide ((2000 : Int) < (key.length : Int)) = false := by simp; omega
  have HF : Hid (FTab w) := hTab.1
  have HK : Hid (KTab w) := hTab.2
  have HA : Hid (Sees w a ca key) := ha
  have HB : Hid (Sees w b cb bs) := hb
  have hk : key.length ≤ 2000 := by omega
  have h1 := HEX w a ca key b cb bs n hTab.1 hTab.2 ha hb hk
  obtain ⟨p, hp⟩ : ∃ p, p = expandP key bs n := ⟨_, rfl⟩
  rw [← hp] at h1
  have HP : Hid (p = expandP key bs n) := hp
  have tail : ∀ w1 x1 c1 r1, Hid (r1 = p.1) → Sees w1 x1 c1 r1 → Below w.heap.size w w1 →
      Calls Tryd.prog 11 #[.slice a key.length ca, .slice b bs.length cb, .int .i64 n] w1 fun e w2 => ∃ x2 c2, e = .returned (.tuple #[.slice x2 r1.length c2, .int .i64 (p.2 : Int)]) ∧ Sees w2 x2 c2 r1 ∧ Sees w2 x1 c1 r1 ∧ Below w.heap.size w w2 := fun w1 x1 c1 r1 hr1 hs1 hb1 => by
    have h2 := rexpand_any w1 a ca key b cb bs n (HA.out.below hb1) (HB.out.below hb1)
    rw [← HP.out] at h2
    refine h2.mono ?_
    rintro e w2 ⟨x2, c2, r2, hr2, rfl, hs2, hb2⟩
    have hrr : r2 = r1 := by rw [hr2.out, hr1.out]
    subst hrr
    exact ⟨x2, c2, rfl, hs2, hs1.below hb2, hb1.trans (hb2.mono hb1.size)⟩
  have HT : Hid (∀ w1 x1 c1 r1, Hid (r1 = p.1) → Sees w1 x1 c1 r1 → Below w.heap.size w w1 →
      Calls Tryd.prog 11 #[.slice a key.length ca, .slice b bs.length cb, .int .i64 n] w1 fun e w2 => ∃ x2 c2, e = .returned (.tuple #[.slice x2 r1.length c2, .int .i64 (p.2 : Int)]) ∧ Sees w2 x2 c2 r1 ∧ Sees w2 x1 c1 r1 ∧ Below w.heap.size w w2) := tail
  obtain ⟨q, hq⟩ : ∃ q, q = p.2 := ⟨_, rfl⟩
  rw [← hq] at HT
  have h1' : Calls Tryd.prog 10 #[.slice a key.length ca, .slice b bs.length cb, .int .i64 n] w fun e w' => ∃ d cd r, Hid (r = p.1) ∧ e = .returned (.tuple #[.slice d r.length cd, .int .i64 (q : Int)]) ∧ Sees w' d cd r ∧ Below w.heap.size w w' := by rw [hq]; exact h1
  have hdec : ¬ (2000 < n ∧ n ≤ 8160) := fun h => hbig (.inr h)
  clear hTab ha hb hp HP tail h1 hq hbig
  by_cases hn : 2000 < n
  · have dn : decide (n ≤ 8160) = false := by simp; omega
    clear hdec
    go_enter Tryd.func3, Tryd.ntmps3
    go_wp2_with fail
    refine h1'.mono ?_
    rintro e w1 ⟨x1, c1, r1, hr1, rfl, hs1, hb1⟩
    have h2 := HT.out w1 x1 c1 r1 hr1 hs1 hb1
    clear h1' HT
    go_wp2_with fail
    refine h2.mono ?_
    rintro e w2 ⟨x2, c2, rfl, hs2, hs12, hb2w⟩
    have e1 := hs12.convert (P := Tryd.prog) 22 5 9 Tryd.underlying22 Tryd.underlying5 Tryd.underlying9
    have e2 := hs2.convert (P := Tryd.prog) 22 5 9 Tryd.underlying22 Tryd.underlying5 Tryd.underlying9
    have haw := HAW w2 (HF.out.below hb2w) (HK.out.below hb2w)
    clear h2 hr1
    go_wp2_with fail
    refine haw.mono ?_
    rintro e w5 ⟨rfl, hb5⟩
    clear haw
    go_wp2
    go_ret
    exact ⟨rfl, hb2w.trans (hb5.mono hb2w.size)⟩
  · have dn : decide (2000 < n) = false := by simp; omega
    clear hdec
    go_enter Tryd.func3, Tryd.ntmps3
    go_wp2_with fail
    refine h1'.mono ?_
    rintro e w1 ⟨x1, c1, r1, hr1, rfl, hs1, hb1⟩
    have h2 := HT.out w1 x1 c1 r1 hr1 hs1 hb1
    clear h1' HT
    go_wp2_with fail
    refine h2.mono ?_
    rintro e w2 ⟨x2, c2, rfl, hs2, hs12, hb2w⟩
    have e1 := hs12.convert (P := Tryd.prog) 22 5 9 Tryd.underlying22 Tryd.underlying5 Tryd.underlying9
    have e2 := hs2.convert (P := Tryd.prog) 22 5 9 Tryd.underlying22 Tryd.underlying5 Tryd.underlying9
    have haw := HAW w2 (HF.out.below hb2w) (HK.out.below hb2w)
    clear h2 hr1
    go_wp2_with fail
    refine haw.mono ?_
    rintro e w5 ⟨rfl, hb5⟩
    clear haw
    go_wp2
    go_ret
    exact ⟨rfl, hb2w.trans (hb5.mono hb2w.size)⟩

/-- An answer, its parts named. -/
def Tells (w w' : World) (e : Ending) (r : List UInt8) (q : Nat) : Prop := ∃ d cd, e = .returned (.tuple #[.slice d r.length cd, .int .i64 (q : Int)]) ∧ Sees w' d cd r ∧ Below w.heap.size w w'
theorem Says.tells {w w' : World} {e : Ending} {p : List UInt8 × Nat} (h : Says w w' e p) : Tells w w' e p.1 p.2 := by
  obtain ⟨d, cd, r, hr, he, hs, hb⟩ := h
  have hrr := hr.out
  subst hrr
  exact ⟨d, cd, he, hs, hb⟩

set_option maxHeartbeats 1600000 in
set_option maxRecDepth 20000 in
theorem keys_walk' (HKE : KkeyOk) (HAW : KawakeOk) (a : Option Addr) (ca : Nat) (key : List UInt8) (name : List UInt8) (c : Option Addr) (cc : Nat) (l : List Nat) (w : World) (hTab : FTab w ∧ KTab w) (ha : Sees w a ca key) (_ : ca ≤ 140737488351232) (hnm : name.length ≤ 9223372036854775807) (hc : Longs w c cc l) (_ : cc ≤ 140737488351232) :
    Calls Tryd.prog 5 #[.slice a key.length ca, .string ⟨name.toArray⟩, .slice c l.length cc] w fun e w' => e = .returned (.bool true) ∧ Below w.heap.size w w' := by
  have HF : Hid (FTab w) := hTab.1
  have HK : Hid (KTab w) := hTab.2
  have HA : Hid (Sees w a ca key) := ha
  have HC : Hid (Longs w c cc l) := hc
  have h1 := (HKE w a ca key name c cc l hnm hTab.1 hTab.2 ha hc).mono (fun _ _ h => h.tells)
  have H2 : Hid (∀ W, Below w.heap.size w W → Calls Tryd.prog 15 #[.slice a key.length ca, .string ⟨name.toArray⟩, .slice c l.length cc] W fun e w' => Tells W w' e (keyP key name l).1 (keyP key name l).2) := fun W hW =>
    (rkey_any W a ca key name hnm c cc l (HA.out.below hW) (HC.out.below hW)).mono (fun _ _ h => h.tells)
  obtain ⟨r, hr⟩ : ∃ r, r = (keyP key name l).1 := ⟨_, rfl⟩
  obtain ⟨q, hq⟩ : ∃ q, q = (keyP key name l).2 := ⟨_, rfl⟩
  rw [← hr, ← hq] at h1 H2
  clear hTab ha hc hr hq
  go_enter Tryd.func5, Tryd.ntmps5
  go_wp2_with fail
  refine h1.mono ?_
  rintro e w1 ⟨x1, c1, rfl, hs1, hb1⟩
  have h2 := H2.out w1 hb1
  clear h1
  go_wp2_with fail
  refine h2.mono ?_
  rintro e w2 ⟨x2, c2, rfl, hs2, hb2⟩
  have hb2w := hb1.trans (hb2.mono hb1.size)
  have e1 := (hs1.below hb2).convert (P := Tryd.prog) 22 5 9 Tryd.underlying22 Tryd.underlying5 Tryd.underlying9
  have e2 := hs2.convert (P := Tryd.prog) 22 5 9 Tryd.underlying22 Tryd.underlying5 Tryd.underlying9
  have haw := HAW w2 (HF.out.below hb2w) (HK.out.below hb2w)
  clear h2
  go_wp2_with fail
  refine haw.mono ?_
  rintro e w5 ⟨rfl, hb5⟩
  clear haw
  go_wp2
  go_ret
  exact ⟨rfl, hb2w.trans (hb5.mono hb2w.size)⟩

theorem pairP_comm (key : List UInt8) (i j : Int) : pairP key j i = pairP key i j := by
  unfold pairP
  by_cases h : nodeP i = true ∧ nodeP j = true ∧ i ≠ j
  · rw [if_pos h, if_pos ⟨h.2.1, h.1, Ne.symm h.2.2⟩, Int.min_comm, Int.max_comm]
  · rw [if_neg h, if_neg (fun g => h ⟨g.2.1, g.1, Ne.symm g.2.2⟩)]
theorem pairP_good (key : List UInt8) (i j : Int) (h : (pairP key i j).2 = 0) : (pairP key i j).1.length = 16 ∧ i ≠ j := by
  unfold pairP at h ⊢
  by_cases g : nodeP i = true ∧ nodeP j = true ∧ i ≠ j
  · rw [if_pos g] at h ⊢; exact ⟨keyP_len _ _ _ h, g.2.2⟩
  · rw [if_neg g] at h; simp at h

set_option maxHeartbeats 1600000 in
set_option maxRecDepth 20000 in
theorem both_walk' (HPA : KpairOk) (HAW : KawakeOk) (a : Option Addr) (ca : Nat) (key : List UInt8) (i j : Int) (w : World) (hTab : FTab w ∧ KTab w) (ha : Sees w a ca key) (_ : ca ≤ 140737488351232) (_wi : (Lit.int .i64 i).wf = true) (_wj : (Lit.int .i64 j).wf = true) :
    Calls Tryd.prog 8 #[.slice a key.length ca, .int .i64 i, .int .i64 j] w fun e w' => e = .returned (.bool true) ∧ Below w.heap.size w w' := by
  have HF : Hid (FTab w) := hTab.1
  have HK : Hid (KTab w) := hTab.2
  have HA : Hid (Sees w a ca key) := ha
  have h1 := (HPA w a ca key i j hTab.1 hTab.2 ha).mono (fun _ _ h => h.tells)
  have H2 : Hid (∀ W, Below w.heap.size w W → Calls Tryd.prog 16 #[.slice a key.length ca, .int .i64 j, .int .i64 i] W fun e w' => Tells W w' e (pairP key i j).1 (pairP key i j).2) := fun W hW => by
    rw [← pairP_comm]
    exact (HPA W a ca key j i (HF.out.below hW) (HK.out.below hW) (HA.out.below hW)).mono (fun _ _ h => h.tells)
  have HG : Hid ((pairP key i j).2 = 0 → (pairP key i j).1.length = 16 ∧ i ≠ j) := pairP_good key i j
  obtain ⟨r, hr⟩ : ∃ r, r = (pairP key i j).1 := ⟨_, rfl⟩
  obtain ⟨q, hq⟩ : ∃ q, q = (pairP key i j).2 := ⟨_, rfl⟩
  rw [← hr, ← hq] at h1 H2 HG
  clear hTab ha hr hq
  by_cases hq0 : q = 0
  · obtain ⟨hrl, hij⟩ := HG.out hq0
    subst hq0
    have dij : (i != j) = true := by simp [hij]
    have HRL : Hid (r.length = 16) := hrl
    clear hrl hij HG
    go_enter Tryd.func8, Tryd.ntmps8
    go_wp2_with fail
    refine h1.mono ?_
    rintro e w1 ⟨x1, c1, rfl, hs1, hb1⟩
    have h2 := H2.out w1 hb1
    clear h1
    go_wp2_with fail
    refine h2.mono ?_
    rintro e w2 ⟨x2, c2, rfl, hs2, hb2⟩
    have hb2w := hb1.trans (hb2.mono hb1.size)
    have e1 := (hs1.below hb2).convert (P := Tryd.prog) 22 5 9 Tryd.underlying22 Tryd.underlying5 Tryd.underlying9
    have e2 := hs2.convert (P := Tryd.prog) 22 5 9 Tryd.underlying22 Tryd.underlying5 Tryd.underlying9
    have haw := HAW w2 (HF.out.below hb2w) (HK.out.below hb2w)
    rw [HRL.out] at e1 e2 ⊢
    clear h2
    go_wp2_with fail
    refine haw.mono ?_
    rintro e w5 ⟨rfl, hb5⟩
    clear haw
    go_wp2
    go_ret
    exact ⟨rfl, hb2w.trans (hb5.mono hb2w.size)⟩
  · have dq : ((q : Int) != 0) = true := by simp; omega
    clear HG
    go_enter Tryd.func8, Tryd.ntmps8
    go_wp2_with fail
    refine h1.mono ?_
    rintro e w1 ⟨x1, c1, rfl, hs1, hb1⟩
    have h2 := H2.out w1 hb1
    clear h1
    go_wp2_with fail
    refine h2.mono ?_
    rintro e w2 ⟨x2, c2, rfl, hs2, hb2⟩
    have hb2w := hb1.trans (hb2.mono hb1.size)
    have e1 := (hs1.below hb2).convert (P := Tryd.prog) 22 5 9 Tryd.underlying22 Tryd.underlying5 Tryd.underlying9
    have e2 := hs2.convert (P := Tryd.prog) 22 5 9 Tryd.underlying22 Tryd.underlying5 Tryd.underlying9
    have haw := HAW w2 (HF.out.below hb2w) (HK.out.below hb2w)
    clear h2
    go_wp2_with fail
    refine haw.mono ?_
    rintro e w5 ⟨rfl, hb5⟩
    clear haw
    go_wp2
    go_ret
    exact ⟨rfl, hb2w.trans (hb5.mono hb2w.size)⟩

set_option maxHeartbeats 3200000 in
set_option maxRecDepth 20000 in
theorem nodes_walk' (HPA : KpairOk) (HOW : KownOk) (HST : KstepOk) (HMA : KmacOk) (HAW : KawakeOk) (a : Option Addr) (ca : Nat) (mas : List UInt8) (b : Option Addr) (cb : Nat) (key : List UInt8) (i j : Int) (w : World) (hTab : FTab w ∧ KTab w) (ha : Sees w a ca mas) (_ : ca ≤ 140737488351232) (hb : Sees w b cb key) (_ : cb ≤ 140737488351232) (_wi : (Lit.int .i64 i).wf = true) (_wj : (Lit.int .i64 j).wf = true) :
    Calls Tryd.prog 6 #[.slice a mas.length ca, .slice b key.length cb, .int .i64 i, .int .i64 j] w fun e w' => e = .returned (.bool true) ∧ Below w.heap.size w w' := by
  have HF : Hid (FTab w) := hTab.1
  have HK : Hid (KTab w) := hTab.2
  have HA : Hid (Sees w a ca mas) := ha
  have HB : Hid (Sees w b cb key) := hb
  have H1 : Hid (∀ W, Below w.heap.size w W → Calls Tryd.prog 16 #[.slice a mas.length ca, .int .i64 i, .int .i64 j] W fun e w' => Tells W w' e (pairP mas i j).1 (pairP mas i j).2) := fun W hW =>
    (HPA W a ca mas i j (HF.out.below hW) (HK.out.below hW) (HA.out.below hW)).mono (fun _ _ h => h.tells)
  have H2 : Hid (∀ W, Below w.heap.size w W → Calls Tryd.prog 17 #[.slice a mas.length ca, .int .i64 i, .int .i64 j] W fun e w' => Tells W w' e (pairP mas i j).1 (pairP mas i j).2) := fun W hW =>
    (rpair_any W a ca mas i j (HA.out.below hW)).mono (fun _ _ h => h.tells)
  have H3 : Hid (∀ W, Below w.heap.size w W → Calls Tryd.prog 18 #[.slice a mas.length ca, .int .i64 i] W fun e w' => Tells W w' e (ownP mas i).1 (ownP mas i).2) := fun W hW =>
    (HOW W a ca mas i (HF.out.below hW) (HK.out.below hW) (HA.out.below hW)).mono (fun _ _ h => h.tells)
  have H4 : Hid (∀ W, Below w.heap.size w W → Calls Tryd.prog 19 #[.slice a mas.length ca, .int .i64 i] W fun e w' => Tells W w' e (ownP mas i).1 (ownP mas i).2) := fun W hW =>
    (rown_any W a ca mas i (HA.out.below hW)).mono (fun _ _ h => h.tells)
  have H5 : Hid (∀ W, Below w.heap.size w W → Calls Tryd.prog 20 #[.slice b key.length cb] W fun e w' => Tells W w' e (stepP key).1 (stepP key).2) := fun W hW =>
    (HST W b cb key (HF.out.below hW) (HK.out.below hW) (HB.out.below hW)).mono (fun _ _ h => h.tells)
  have H6 : Hid (∀ W, Below w.heap.size w W → Calls Tryd.prog 21 #[.slice b key.length cb] W fun e w' => Tells W w' e (stepP key).1 (stepP key).2) := fun W hW =>
    (rstep_any W b cb key (HB.out.below hW)).mono (fun _ _ h => h.tells)
  have H7 : Hid (∀ W, Below w.heap.size w W → Calls Tryd.prog 22 #[.slice b key.length cb] W fun e w' => Tells W w' e (macP key).1 (macP key).2) := fun W hW =>
    (HMA W b cb key (HF.out.below hW) (HK.out.below hW) (HB.out.below hW)).mono (fun _ _ h => h.tells)
  have H8 : Hid (∀ W, Below w.heap.size w W → Calls Tryd.prog 23 #[.slice b key.length cb] W fun e w' => Tells W w' e (macP key).1 (macP key).2) := fun W hW =>
    (rmac_any W b cb key (HB.out.below hW)).mono (fun _ _ h => h.tells)
  obtain ⟨r1, hr1⟩ : ∃ r, r = (pairP mas i j).1 := ⟨_, rfl⟩
  obtain ⟨q1, hq1⟩ : ∃ q, q = (pairP mas i j).2 := ⟨_, rfl⟩
  obtain ⟨r2, hr2⟩ : ∃ r, r = (ownP mas i).1 := ⟨_, rfl⟩
  obtain ⟨q2, hq2⟩ : ∃ q, q = (ownP mas i).2 := ⟨_, rfl⟩
  obtain ⟨r3, hr3⟩ : ∃ r, r = (stepP key).1 := ⟨_, rfl⟩
  obtain ⟨q3, hq3⟩ : ∃ q, q = (stepP key).2 := ⟨_, rfl⟩
  obtain ⟨r4, hr4⟩ : ∃ r, r = (macP key).1 := ⟨_, rfl⟩
  obtain ⟨q4, hq4⟩ : ∃ q, q = (macP key).2 := ⟨_, rfl⟩
  rw [← hr1, ← hq1] at H1 H2
  rw [← hr2, ← hq2] at H3 H4
  rw [← hr3, ← hq3] at H5 H6
  rw [← hr4, ← hq4] at H7 H8
  clear hTab ha hb hr1 hq1 hr2 hq2 hr3 hq3 hr4 hq4
  have g1 := H1.out w (Below.refl _ _)
  go_enter Tryd.func6, Tryd.ntmps6
  go_wp2_with fail
  refine g1.mono ?_
  rintro e w1 ⟨x1, c1, rfl, s1, b1⟩
  have g2 := H2.out w1 b1
  clear g1
  go_wp2_with fail
  refine g2.mono ?_
  rintro e w2 ⟨x2, c2, rfl, s2, b2⟩
  have bw2 := b1.trans (b2.mono b1.size)
  have g3 := H3.out w2 bw2
  clear g2
  go_wp2_with fail
  refine g3.mono ?_
  rintro e w3 ⟨x3, c3, rfl, s3, b3⟩
  have bw3 := bw2.trans (b3.mono bw2.size)
  have g4 := H4.out w3 bw3
  clear g3
  go_wp2_with fail
  refine g4.mono ?_
  rintro e w4 ⟨x4, c4, rfl, s4, b4⟩
  have bw4 := bw3.trans (b4.mono bw3.size)
  have g5 := H5.out w4 bw4
  clear g4
  go_wp2_with fail
  refine g5.mono ?_
  rintro e w5 ⟨x5, c5, rfl, s5, b5⟩
  have bw5 := bw4.trans (b5.mono bw4.size)
  have g6 := H6.out w5 bw5
  clear g5
  go_wp2_with fail
  refine g6.mono ?_
  rintro e w6 ⟨x6, c6, rfl, s6, b6⟩
  have bw6 := bw5.trans (b6.mono bw5.size)
  have g7 := H7.out w6 bw6
  clear g6
  go_wp2_with fail
  refine g7.mono ?_
  rintro e w7 ⟨x7, c7, rfl, s7, b7⟩
  have bw7 := bw6.trans (b7.mono bw6.size)
  have g8 := H8.out w7 bw7
  clear g7
  go_wp2_with fail
  refine g8.mono ?_
  rintro e w8 ⟨x8, c8, rfl, s8, b8⟩
  have bw8 := bw7.trans (b8.mono bw7.size)
  clear g8
  have t7 := s7.below b8
  have t6 := (s6.below b7).below b8
  have t5 := ((s5.below b6).below b7).below b8
  have t4 := (((s4.below b5).below b6).below b7).below b8
  have t3 := ((((s3.below b4).below b5).below b6).below b7).below b8
  have t2 := (((((s2.below b3).below b4).below b5).below b6).below b7).below b8
  have t1 := ((((((s1.below b2).below b3).below b4).below b5).below b6).below b7).below b8
  have e1 := t1.convert (P := Tryd.prog) 22 5 9 Tryd.underlying22 Tryd.underlying5 Tryd.underlying9
  have e2 := t2.convert (P := Tryd.prog) 22 5 9 Tryd.underlying22 Tryd.underlying5 Tryd.underlying9
  have e3 := t3.convert (P := Tryd.prog) 22 5 9 Tryd.underlying22 Tryd.underlying5 Tryd.underlying9
  have e4 := t4.convert (P := Tryd.prog) 22 5 9 Tryd.underlying22 Tryd.underlying5 Tryd.underlying9
  have e5 := t5.convert (P := Tryd.prog) 22 5 9 Tryd.underlying22 Tryd.underlying5 Tryd.underlying9
  have e6 := t6.convert (P := Tryd.prog) 22 5 9 Tryd.underlying22 Tryd.underlying5 Tryd.underlying9
  have e7 := t7.convert (P := Tryd.prog) 22 5 9 Tryd.underlying22 Tryd.underlying5 Tryd.underlying9
  have e8 := s8.convert (P := Tryd.prog) 22 5 9 Tryd.underlying22 Tryd.underlying5 Tryd.underlying9
  have haw := HAW w8 (HF.out.below bw8) (HK.out.below bw8)
  clear s1 s2 s3 s4 s5 s6 s7 s8 t1 t2 t3 t4 t5 t6 t7 b2 b3 b4 b5 b6 b7 b8 bw2 bw3 bw4 bw5 bw6 bw7 H1 H2 H3 H4 H5 H6 H7 H8
  go_wp2_with fail
  refine haw.mono ?_
  rintro e w9 ⟨rfl, hb9⟩
  clear haw
  go_wp2
  go_ret
  exact ⟨rfl, bw8.trans (hb9.mono bw8.size)⟩
end Go.Proofs.YtkpaldkmikjpiaaDoor
