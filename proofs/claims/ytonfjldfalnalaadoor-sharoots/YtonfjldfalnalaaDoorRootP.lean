/-
  The contracts of the document's primes, Rounds and Start, and of sha.Start.
-/
import Derived.Test.YtonfjldfalnalaaDoorRootF
import Derived.Test.YtonfjldfalnalaaDoorRefBlock
import Derived.Test.YtonfjldfalnalaaDoorDigest
namespace Go.Proofs.YtonfjldfalnalaaDoor
open Go.ChangeShapes Go.WideShapes Go.ChangeAt Go.RowKit

theorem append_long (w : World) (base : Nat) (v : Value) (xs : List Nat) (ho : w.ownsRow base 54 1 v xs.length (xs.map lcell)) (x : Nat) (hb : xs.length ≤ 1000) (hbase : base ≤ w.heap.size) :
    ∃ v' w', (Builtin.append_ #[60, 60] 60 #[v, .slice (some ⟨w.heap.size, 0, none⟩) 1 1]).run Tryd.prog (w.alloc (.cells #[.int .u64 (x : Int)] 54)) = .ok v' w' ∧ w'.ownsRow base 54 1 v' (xs ++ [x]).length ((xs ++ [x]).map lcell) ∧
      (∀ B a0, Below B a0 w → B ≤ base → Below B a0 w') := by
  obtain ⟨i5, hi, hz0, hz1, hz2⟩ := info_parts Tryd.info54
  obtain ⟨v', w', hrun, ho', hg, _⟩ := run_append_own (P := Tryd.prog) (w.alloc (.cells #[.int .u64 (x : Int)] 54)) base 60 60 54 i5 (.int .u64 0) 1 8 Tryd.underlying60 hi hz0 hz1 hz2 rfl (by omega) v xs.length (xs.map lcell) (ho.alloc _) ⟨w.heap.size, 0, none⟩ 1 1 [.int .u64 (x : Int)] (by simp) (World.news_of_block (heap_alloc_new w _)) (by simp [Value.oneCell']) (by unfold maxLen; omega) (by omega) (by simp; omega)
  exact ⟨v', w', hrun, by simpa [lcell] using ho', fun B a0 h hB => (h.alloc (Nat.le_trans hB hbase) _).grown hg (by simp; omega) (fun k hk => Nat.le_trans hB (ho.lt _ hk).1)⟩

theorem append_word (w : World) (base : Nat) (v : Value) (xs : List Nat) (ho : w.ownsRow base 38 1 v xs.length (xs.map wcell)) (x : Nat) (hb : xs.length ≤ 1000) (hbase : base ≤ w.heap.size) :
    ∃ v' w', (Builtin.append_ #[30, 30] 30 #[v, .slice (some ⟨w.heap.size, 0, none⟩) 1 1]).run Tryd.prog (w.alloc (.cells #[.int .u32 (x : Int)] 38)) = .ok v' w' ∧ w'.ownsRow base 38 1 v' (xs ++ [x]).length ((xs ++ [x]).map wcell) ∧
      (∀ B a0, Below B a0 w → B ≤ base → Below B a0 w') := by
  obtain ⟨i5, hi, hz0, hz1, hz2⟩ := info_parts Tryd.info38
  obtain ⟨v', w', hrun, ho', hg, _⟩ := run_append_own (P := Tryd.prog) (w.alloc (.cells #[.int .u32 (x : Int)] 38)) base 30 30 38 i5 (.int .u32 0) 1 4 Tryd.underlying30 hi hz0 hz1 hz2 rfl (by omega) v xs.length (xs.map wcell) (ho.alloc _) ⟨w.heap.size, 0, none⟩ 1 1 [.int .u32 (x : Int)] (by simp) (World.news_of_block (heap_alloc_new w _)) (by simp [Value.oneCell']) (by unfold maxLen; omega) (by omega) (by simp; omega)
  exact ⟨v', w', hrun, by simpa [wcell] using ho', fun B a0 h hB => (h.alloc (Nat.le_trans hB hbase) _).grown hg (by simp; omega) (fun k hk => Nat.le_trans hB (ho.lt _ hk).1)⟩

theorem Words.of_own {w : World} {base : Nat} {e : TypeId} {v : Value} {n : Nat} {l : List Nat} (h : w.ownsRow base e 1 v n (l.map wcell)) (hs : ∀ x ∈ l, x < 4294967296) :
    ∃ a cap, v = .slice a l.length cap ∧ Words w a cap l := by
  have hn : n = l.length := by have := h.1; simp at this; omega
  subst hn
  rcases h.2 with ⟨rfl, h0⟩ | ⟨g, cap, cur, rfl, _, hg, hnc, hcm, hcs, htake⟩
  · have : l = [] := List.eq_nil_of_length_eq_zero h0
    subst this
    exact ⟨none, 0, rfl, by simp, by simp, by simp, fun h => absurd rfl h⟩
  · refine ⟨_, cap, rfl, hnc, hcm, hs, fun _ => ⟨g, 0, rfl, fun i x hx => ?_⟩⟩
    have h1 := h.cells (g := g) rfl i (wcell x) (by simp [hx])
    rw [Addr.add_lit] at h1
    exact h1

def allN (m k : Nat) (l : List Nat) : Bool := (l.take k).all fun q => decide ((m + 2) % q ≠ 0)
theorem allN_zero (m : Nat) (l : List Nat) : allN m 0 l = true := by simp [allN]
theorem allN_step (m k q : Nat) (l : List Nat) (h : l[k]? = some q) : allN m (k + 1) l = (allN m k l && decide ((m + 2) % q ≠ 0)) := by
  have := (List.getElem?_eq_some_iff.1 h).1
  unfold allN
  rw [List.take_add_one, h]
  simp
theorem prs_step (m : Nat) : prs (m + 1) = if allN m (prs m).length (prs m) then prs m ++ [m + 2] else prs m := by
  unfold allN; rw [List.take_length]; rfl

set_option maxHeartbeats 1600000 in
theorem primes_any (w : World) (n M : Nat) (hM : (prs M).length = n) (hn : n ≤ 1000) (hM2 : M ≤ 1000000) :
    Calls Tryd.prog 30 #[.int .i64 (n : Int)] w fun e w' => ∃ a cap, e = .returned (.slice a n cap) ∧ Longs w' a cap (prs M) ∧ Below w.heap.size w w' := by
  have HM : Hid ((prs M).length = n) := hM
  have Hpre : Hid (∀ m, m ≤ M → ∃ r, prs M = prs m ++ r) := fun m hm => by
    obtain ⟨r, hr⟩ := prs_more m (M - m)
    exact ⟨r, by rw [← hr]; congr 1; omega⟩
  have Hle : Hid (∀ m, m ≤ M → (prs m).length ≤ n) := fun m hm => by
    obtain ⟨r, hr⟩ := Hpre.out m hm
    rw [← HM.out, hr]; simp
  clear hM
  go_enter Tryd.func30, Tryd.ntmps30
  go_wp2
  go_loopw [3, 4, 5, 6] (fun v p b i wr => ∃ m : Nat, m ≤ M ∧ p = .int .u64 ((m + 2 : Nat) : Int) ∧ wr.ownsRow w.heap.size 54 1 v (prs m).length ((prs m).map lcell) ∧ Below w.heap.size w wr)
    (fun _ p _ _ _ => M + 2 - (intOf p).toNat)
  case atStart => exact ⟨0, by omega, rfl, World.ownsRow_nil _ _ _ _, Below.refl _ _⟩
  case round =>
    obtain ⟨m, hm, rfl, ho, hbl⟩ := hrel
    obtain ⟨l, hl⟩ : ∃ l, l = prs m := ⟨_, rfl⟩
    have hln : l.length ≤ n := by rw [hl]; exact Hle.out m hm
    rw [← hl] at ho
    have hsm : ∀ x ∈ l, 2 ≤ x ∧ x < m + 2 := by rw [hl]; exact prs_pos m
    obtain ⟨a, cap, rfl, hL⟩ := Longs.of_own ho (fun x hx => by have := hsm x hx; omega)
    by_cases hlt : l.length < n
    · have hmM : m < M := by
        rcases Nat.lt_or_ge m M with h | h
        · exact h
        · have : m = M := by omega
          rw [hl, this, HM.out] at hlt; omega
      have HS : Hid (prs (m + 1) = if allN m l.length l then l ++ [m + 2] else l) := by rw [hl]; exact prs_step m
      have Hsm : Hid (∀ x ∈ l, 2 ≤ x ∧ x < m + 2) := hsm
      have HL : Hid (Longs wr a cap l) := hL
      have HO : Hid (wr.ownsRow w.heap.size 54 1 (.slice a l.length cap) l.length (l.map lcell)) := ho
      clear hl hsm hL ho
      go_wp2
      go_loop [5, 6] (fun b i => ∃ k : Nat, k ≤ l.length ∧ i = .int .i64 k ∧ b = .bool (allN m k l)) (fun _ i => l.length - (intOf i).toNat)
      case atStart => exact ⟨0, by omega, rfl, by rw [allN_zero]⟩
      case round =>
        obtain ⟨k, hk, rfl, rfl⟩ := hrel
        by_cases hlt2 : k < l.length
        · obtain ⟨q, hq⟩ : ∃ q, l[k]? = some q := ⟨l[k], by simp [hlt2]⟩
          have hst := allN_step m k q l hq
          obtain ⟨b1, o1, rfl, hcell⟩ := HL.out.get hq
          have hq2 := Hsm.out q (List.mem_of_getElem? hq)
          have HST : Hid (allN m (k + 1) l = (allN m k l && decide ((m + 2) % q ≠ 0))) := hst
          clear hst hq
          have hq0 : (q : Int) ≠ 0 := by omega
          obtain ⟨r, hr⟩ : ∃ r, r = (m + 2) % q := ⟨_, rfl⟩
          have er : ((m : Int) + 2) % (q : Int) = (r : Int) := by rw [hr]; simp
          have et : ((m : Int) + 2).tmod (q : Int) = (r : Int) := by rw [hr, Int.tmod_eq_emod_of_nonneg (by omega)]; simp
          rw [← hr] at HST
          clear hr
          by_cases hb : allN m k l = true
          · rw [hb] at HST ⊢
            go_wp2
            go_round
            case rel => exact ⟨k + 1, by omega, by go_num, by rw [HST.out]; by_cases hr0 : r = 0 <;> simp [hr0]⟩
            case measure => simp [intOf]; omega
          · have hb' : allN m k l = false := by simpa using hb
            rw [hb'] at HST ⊢
            go_wp2
            go_round
            case rel => exact ⟨k + 1, by omega, by go_num, by rw [HST.out]; rfl⟩
            case measure => simp [intOf]; omega
        · obtain rfl : k = l.length := by omega
          by_cases hb : allN m l.length l = true
          · rw [hb]
            rw [if_pos hb] at HS
            obtain ⟨v', w', hrun, ho', hbb⟩ := append_long wr w.heap.size _ l HO.out (m + 2) (by omega) hbl.size
            have HA : Hid ((Builtin.append_ #[60, 60] 60 #[.slice a l.length cap, .slice (some ⟨wr.heap.size, 0, none⟩) 1 1]).run Tryd.prog (wr.alloc (.cells #[.int .u64 ((m + 2 : Nat) : Int)] 54)) = .ok v' w') := hrun
            have hb2 := hbb _ _ hbl (Nat.le_refl _)
            have HO2 : Hid (w'.ownsRow w.heap.size 54 1 v' (prs (m + 1)).length ((prs (m + 1)).map lcell)) := by rw [HS.out]; exact ho'
            clear hrun ho' hbb
            go_wp2_with (at_builtin; refine wpList_append_run rfl _ _ 60 rfl _ _ _ rfl rfl HA.out ?_)
            go_roundw
            case rel => exact ⟨m + 1, by omega, by go_num, HO2.out, hb2⟩
            case measure => simp [intOf]; omega
          · have hb' : allN m l.length l = false := by simpa using hb
            rw [hb']
            rw [if_neg hb] at HS
            have HO2 : Hid (wr.ownsRow w.heap.size 54 1 (.slice a l.length cap) (prs (m + 1)).length ((prs (m + 1)).map lcell)) := by rw [HS.out]; exact HO.out
            go_wp2
            go_roundw
            case rel => exact ⟨m + 1, by omega, by go_num, HO2.out, hbl⟩
            case measure => simp [intOf]; omega
    · have hle : l.length = n := by omega
      have hE : l = prs M := by
        obtain ⟨r, hr⟩ := Hpre.out m hm
        have h1 : r.length = 0 := by have := HM.out; rw [hr, List.length_append, ← hl] at this; omega
        rw [hr, List.eq_nil_of_length_eq_zero h1, List.append_nil, hl]
      rw [hE] at hL
      rw [hle]
      clear hl hE
      go_wp2
      go_ret
      exact ⟨_, _, rfl, hL, hbl⟩

theorem root_lt (p : Nat) (c : Bool) : rootL p c 40 < 18446744073709551616 := by have := rootL_lt p c 40; omega

theorem map_take_snoc (f : Nat → Nat) (l : List Nat) (k x : Nat) (h : l[k]? = some x) : (l.take (k + 1)).map f = (l.take k).map f ++ [f x] := by
  rw [List.take_add_one, h]; simp

theorem own_keepW {w w' : World} {B n : Nat} {e : TypeId} {v : Value} {xs : List Value} (h : w.ownsRow B e 1 v n xs) (hb : Below w.heap.size w w') : w'.ownsRow B e 1 v n xs := by
  refine ⟨h.1, ?_⟩
  rcases h.2 with h0 | ⟨g, cap, cur, rfl, hlow, hg, h4, h5, h6, h7⟩
  · exact .inl h0
  · exact .inr ⟨g, cap, cur, rfl, hlow, by rw [hb.block g (Array.getElem?_eq_some_iff.1 hg).1]; exact hg, h4, h5, h6, h7⟩

theorem kTab_small : ∀ x ∈ kTab, x < 4294967296 := by decide +kernel
theorem startL_small : ∀ x ∈ start.list, x < 4294967296 := by decide +kernel

set_option maxHeartbeats 1600000 in
theorem rounds_any (w : World) : Calls Tryd.prog 15 #[] w fun e w' => ∃ a cap, e = .returned (.slice a 64 cap) ∧ Words w' a cap kTab ∧ Below w.heap.size w w' := by
  have hpr := primes_any w 64 310 (by rw [prs_310]; rfl) (by omega) (by omega)
  obtain ⟨P, hP⟩ : ∃ P, P = prs 310 := ⟨_, rfl⟩
  have hPl : P.length = 64 := by rw [hP, prs_310]; rfl
  have HK : Hid (P.map (fun p => rootL p true 40 % 4294967296) = kTab) := by rw [hP]; exact rounds64
  rw [← hP] at hpr
  have HPl : Hid (P.length = 64) := hPl
  clear hP hPl
  obtain ⟨R, hR⟩ : ∃ R : Nat → Nat, R = fun p => rootL p true 40 % 4294967296 := ⟨_, rfl⟩
  rw [← hR] at HK
  have HR : Hid (∀ p, R p = rootL p true 40 % 4294967296) := fun p => by rw [hR]
  clear hR
  go_enter Tryd.func15, Tryd.ntmps15
  go_wp2_with fail
  refine hpr.mono ?_
  rintro e w1 ⟨a, cap, rfl, hL, hb1⟩
  have HL : Hid (Longs w1 a cap P) := hL
  clear hpr hL
  go_wp2
  go_loopw [2, 3] (fun v i wr => ∃ k : Nat, k ≤ 64 ∧ i = .int .i64 k ∧ wr.ownsRow w1.heap.size 38 1 v ((P.take k).map R).length (((P.take k).map R).map wcell) ∧ Below w1.heap.size w1 wr) (fun _ i _ => 64 - (intOf i).toNat)
  case atStart => exact ⟨0, by omega, rfl, World.ownsRow_nil _ _ _ _, Below.refl _ _⟩
  case round =>
    obtain ⟨k, hk, rfl, ho, hbl⟩ := hrel
    by_cases hlt : k < 64
    · obtain ⟨p, hp⟩ : ∃ p, P[k]? = some p := ⟨P[k]'(by rw [HPl.out]; exact hlt), by simp [HPl.out, hlt]⟩
      have hp2 := HL.out.small p (List.mem_of_getElem? hp)
      obtain ⟨b1, o1, rfl, hcell⟩ := (HL.out.below hbl).get hp
      have hroot := root_any wr p true hp2
      obtain ⟨r, hr⟩ : ∃ r, r = rootL p true 40 := ⟨_, rfl⟩
      have hrl : r < 18446744073709551616 := by rw [hr]; exact root_lt p true
      obtain ⟨z, hz⟩ : ∃ z, z = r % 4294967296 := ⟨_, rfl⟩
      have hs := map_take_snoc R P k p hp
      rw [HR.out p, ← hr, ← hz] at hs
      rw [← hr] at hroot
      obtain ⟨xs, hxs⟩ : ∃ xs, xs = (P.take k).map R := ⟨_, rfl⟩
      rw [← hxs] at ho hs
      have hxl : xs.length ≤ 64 := by rw [hxs]; simp; omega
      have HS : Hid ((P.take (k + 1)).map R = xs ++ [z]) := hs
      have ez : IntKind.u32.wrap (r : Int) = (z : Int) := by rw [hz, IntKind.wrap_u32]; simp
      clear hs hxs hr hz hp
      go_wp2_with fail
      refine hroot.mono ?_
      rintro e w2 ⟨rfl, hb2⟩
      have hbl2 : Below w1.heap.size w1 w2 := hbl.trans (hb2.mono hbl.size)
      obtain ⟨v', w3, hrun, ho', hbb⟩ := append_word w2 w1.heap.size _ xs (own_keepW ho hb2) z (by omega) hbl2.size
      have HA : Hid ((Builtin.append_ #[30, 30] 30 #[u2, .slice (some ⟨w2.heap.size, 0, none⟩) 1 1]).run Tryd.prog (w2.alloc (.cells #[.int .u32 (z : Int)] 38)) = .ok v' w3) := hrun
      have hb3 := hbb _ _ hbl2 (Nat.le_refl _)
      have HO2 : Hid (w3.ownsRow w1.heap.size 38 1 v' ((P.take (k + 1)).map R).length (((P.take (k + 1)).map R).map wcell)) := by rw [HS.out]; exact ho'
      clear hrun ho' hbb ho
      go_wp2_with (at_builtin; refine wpList_append_run rfl _ _ 30 rfl _ _ _ rfl rfl HA.out ?_)
      go_roundw
      case rel => exact ⟨k + 1, by omega, by go_num, HO2.out, hb3⟩
      case measure => simp [intOf]; omega
    · obtain rfl : k = 64 := by omega
      have e1 : (P.take 64).map R = kTab := by rw [← HK.out, ← HPl.out, List.take_length]
      rw [e1] at ho
      obtain ⟨d, cd, hv, hW⟩ := Words.of_own ho kTab_small
      rw [hv]
      rw [show (kTab).length = 64 from rfl]
      have hbf := hb1.trans (hbl.mono hb1.size)
      clear ho e1 hv
      go_wp2
      go_ret
      exact ⟨d, cd, rfl, hW, hbf⟩

set_option maxHeartbeats 1600000 in
theorem rstart_any (w : World) : Calls Tryd.prog 18 #[] w fun e w' => ∃ a cap, e = .returned (.slice a 8 cap) ∧ Words w' a cap start.list ∧ Below w.heap.size w w' := by
  have hpr := primes_any w 8 18 (by rw [prs_18]; rfl) (by omega) (by omega)
  obtain ⟨P, hP⟩ : ∃ P, P = prs 18 := ⟨_, rfl⟩
  have hPl : P.length = 8 := by rw [hP, prs_18]; rfl
  have HK : Hid (P.map (fun p => rootL p false 40 % 4294967296) = start.list) := by rw [hP]; exact starts
  rw [← hP] at hpr
  have HPl : Hid (P.length = 8) := hPl
  clear hP hPl
  obtain ⟨R, hR⟩ : ∃ R : Nat → Nat, R = fun p => rootL p false 40 % 4294967296 := ⟨_, rfl⟩
  rw [← hR] at HK
  have HR : Hid (∀ p, R p = rootL p false 40 % 4294967296) := fun p => by rw [hR]
  clear hR
  go_enter Tryd.func18, Tryd.ntmps18
  go_wp2_with fail
  refine hpr.mono ?_
  rintro e w1 ⟨a, cap, rfl, hL, hb1⟩
  have HL : Hid (Longs w1 a cap P) := hL
  clear hpr hL
  go_wp2
  go_loopw [2, 3] (fun v i wr => ∃ k : Nat, k ≤ 8 ∧ i = .int .i64 k ∧ wr.ownsRow w1.heap.size 38 1 v ((P.take k).map R).length (((P.take k).map R).map wcell) ∧ Below w1.heap.size w1 wr) (fun _ i _ => 8 - (intOf i).toNat)
  case atStart => exact ⟨0, by omega, rfl, World.ownsRow_nil _ _ _ _, Below.refl _ _⟩
  case round =>
    obtain ⟨k, hk, rfl, ho, hbl⟩ := hrel
    by_cases hlt : k < 8
    · obtain ⟨p, hp⟩ : ∃ p, P[k]? = some p := ⟨P[k]'(by rw [HPl.out]; exact hlt), by simp [HPl.out, hlt]⟩
      have hp2 := HL.out.small p (List.mem_of_getElem? hp)
      obtain ⟨b1, o1, rfl, hcell⟩ := (HL.out.below hbl).get hp
      have hroot := root_any wr p false hp2
      obtain ⟨r, hr⟩ : ∃ r, r = rootL p false 40 := ⟨_, rfl⟩
      have hrl : r < 18446744073709551616 := by rw [hr]; exact root_lt p false
      obtain ⟨z, hz⟩ : ∃ z, z = r % 4294967296 := ⟨_, rfl⟩
      have hs := map_take_snoc R P k p hp
      rw [HR.out p, ← hr, ← hz] at hs
      rw [← hr] at hroot
      obtain ⟨xs, hxs⟩ : ∃ xs, xs = (P.take k).map R := ⟨_, rfl⟩
      rw [← hxs] at ho hs
      have hxl : xs.length ≤ 8 := by rw [hxs]; simp; omega
      have HS : Hid ((P.take (k + 1)).map R = xs ++ [z]) := hs
      have ez : IntKind.u32.wrap (r : Int) = (z : Int) := by rw [hz, IntKind.wrap_u32]; simp
      clear hs hxs hr hz hp
      go_wp2_with fail
      refine hroot.mono ?_
      rintro e w2 ⟨rfl, hb2⟩
      have hbl2 : Below w1.heap.size w1 w2 := hbl.trans (hb2.mono hbl.size)
      obtain ⟨v', w3, hrun, ho', hbb⟩ := append_word w2 w1.heap.size _ xs (own_keepW ho hb2) z (by omega) hbl2.size
      have HA : Hid ((Builtin.append_ #[30, 30] 30 #[u2, .slice (some ⟨w2.heap.size, 0, none⟩) 1 1]).run Tryd.prog (w2.alloc (.cells #[.int .u32 (z : Int)] 38)) = .ok v' w3) := hrun
      have hb3 := hbb _ _ hbl2 (Nat.le_refl _)
      have HO2 : Hid (w3.ownsRow w1.heap.size 38 1 v' ((P.take (k + 1)).map R).length (((P.take (k + 1)).map R).map wcell)) := by rw [HS.out]; exact ho'
      clear hrun ho' hbb ho
      go_wp2_with (at_builtin; refine wpList_append_run rfl _ _ 30 rfl _ _ _ rfl rfl HA.out ?_)
      go_roundw
      case rel => exact ⟨k + 1, by omega, by go_num, HO2.out, hb3⟩
      case measure => simp [intOf]; omega
    · obtain rfl : k = 8 := by omega
      have e1 : (P.take 8).map R = start.list := by rw [← HK.out, ← HPl.out, List.take_length]
      rw [e1] at ho
      obtain ⟨d, cd, hv, hW⟩ := Words.of_own ho startL_small
      rw [hv]
      rw [show (start.list).length = 8 from rfl]
      have hbf := hb1.trans (hbl.mono hb1.size)
      clear ho e1 hv
      go_wp2
      go_ret
      exact ⟨d, cd, rfl, hW, hbf⟩

set_option maxHeartbeats 800000 in
theorem start_any (w : World) (hF : FTab w) : Calls Tryd.prog 17 #[] w fun e w' => e = .returned (.slice (some ⟨w.heap.size, 0, none⟩) 8 8) ∧ Words w' (some ⟨w.heap.size, 0, none⟩) 8 start.list ∧ Below w.heap.size w w' := by
  have HLD : Hid ((Instr.loadAt 50 (.pointer (some ⟨0, 0, none⟩))).run Tryd.prog w = .ok (.agg start.cells) w) := hF.loads
  have hst := storeAt_row (P := Tryd.prog) (w.alloc (.cells #[.int .u32 0, .int .u32 0, .int .u32 0, .int .u32 0, .int .u32 0, .int .u32 0, .int .u32 0, .int .u32 0] 50)) w.heap.size 50 50 _ start.cells (heap_alloc_new w _) (by kernel_rfl) (by rfl) (by rw [S8.cells_eq]; exact words_one _)
  obtain ⟨w2, hw2⟩ : ∃ w2, w2 = (w.alloc (.cells #[.int .u32 0, .int .u32 0, .int .u32 0, .int .u32 0, .int .u32 0, .int .u32 0, .int .u32 0, .int .u32 0] 50)).setRow w.heap.size start.cells := ⟨_, rfl⟩
  have hrow : w2.heap[w.heap.size]? = some (.cells start.cells 50 (0, 0)) := by rw [hw2]; exact setRow_heap _ _ _ start.cells 50 _ (heap_alloc_new w _)
  have hbel : Below w.heap.size w w2 := by rw [hw2]; exact below_setRow ((Below.refl _ _).alloc (Nat.le_refl _) _) (Nat.le_refl _) _
  rw [← hw2] at hst
  have HST : Hid ((Instr.storeAt 50 (.pointer (some ⟨w.heap.size, 0, none⟩)) (.agg start.cells)).run Tryd.prog (w.alloc (.cells #[.int .u32 0, .int .u32 0, .int .u32 0, .int .u32 0, .int .u32 0, .int .u32 0, .int .u32 0, .int .u32 0] 50)) = .ok () w2) := hst
  have hW : Words w2 (some ⟨w.heap.size, 0, none⟩) 8 start.list := Words.of_row' (by rw [hrow, S8.cells_eq]) (by simp [S8.list]) startL_small
  clear hst hw2 hF hrow
  go_enter Tryd.func17, Tryd.ntmps17
  go_wp2_with (first | refine wpList_load_run rfl 50 _ rfl _ _ rfl HLD.out ?_ | refine wpList_store_run rfl 50 _ _ rfl _ _ rfl rfl HST.out ?_)
  go_ret
  exact ⟨rfl, hW, hbel⟩
end Go.Proofs.YtonfjldfalnalaaDoor
