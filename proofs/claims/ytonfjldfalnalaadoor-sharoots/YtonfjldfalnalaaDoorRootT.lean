/-
  A slice that reads as long words; the contract of the document's times.
-/
import Derived.Test.YtonfjldfalnalaaDoorRootMath
import Derived.Test.YtonfjldfalnalaaDoorCells
import Derived.Test.YtonfjldfalnalaaDoorPut
namespace Go.Proofs.YtonfjldfalnalaaDoor
open Go.ChangeShapes Go.WideShapes Go.ChangeAt Go.RowKit

theorem Tryd.info54 : (Tryd.prog.info? 54).map (fun i => (i.zero, i.size, i.bytes)) = some (some (.int .u64 0), 1, 8) := by kernel_rfl

/-- A long word as a cell. -/
def lcell (x : Nat) : Value := .int .u64 (x : Int)

/-- The slice '.slice a l.length cap' reads as long words. -/
structure Longs (w : World) (a : Option Addr) (cap : Nat) (l : List Nat) : Prop where
  fits : l.length ≤ cap
  room : cap ≤ maxLen
  small : ∀ x ∈ l, x < 18446744073709551616
  at' : l ≠ [] → ∃ b off, a = some ⟨b, off, none⟩ ∧ ∀ (i x : Nat), l[i]? = some x → w.cell? ⟨b, off + i, none⟩ = some (.int .u64 (x : Int))

theorem Longs.get {w : World} {a : Option Addr} {cap : Nat} {l : List Nat} (h : Longs w a cap l) {k x : Nat} (hx : l[k]? = some x) :
    ∃ b off, a = some ⟨b, off, none⟩ ∧ w.cell? ⟨b, off + k, none⟩ = some (.int .u64 (x : Int)) := by
  obtain ⟨b, off, ha, hc⟩ := h.at' (by rintro rfl; simp at hx)
  exact ⟨b, off, ha, hc k x hx⟩

theorem Longs.below {w w' : World} {a : Option Addr} {cap : Nat} {l : List Nat} (h : Longs w a cap l) (hb : Below w.heap.size w w') : Longs w' a cap l :=
  ⟨h.fits, h.room, h.small, fun hne => by
    obtain ⟨b, off, ha, hc⟩ := h.at' hne
    refine ⟨b, off, ha, fun i x hx => ?_⟩
    have h1 := hc i x hx
    rw [hb.cell (p := ⟨b, off + i, none⟩) (World.block_lt_of_cell? w _ h1), h1]⟩

theorem Longs.lit (w : World) (t : TypeId) (l : List Nat) (hl : l.length ≤ 100) (hs : ∀ x ∈ l, x < 18446744073709551616) :
    Longs (w.alloc (.cells (l.map fun x : Nat => Value.int .u64 (x : Int)).toArray t)) (some ⟨w.heap.size, 0, none⟩) l.length l :=
  ⟨Nat.le_refl _, by unfold maxLen; omega, hs, fun _ => ⟨w.heap.size, 0, rfl, fun i x hx => by
    have h := World.news_of_block (w := w.alloc (.cells (l.map fun x : Nat => Value.int .u64 (x : Int)).toArray t)) (cs := (l.map fun x : Nat => Value.int .u64 (x : Int)).toArray) (t := t) (fr := (0, 0)) (heap_alloc_new w _) i (.int .u64 (x : Int)) (by simp [hx])
    rw [Addr.add_lit] at h
    exact h⟩⟩

theorem Longs.of_own {w : World} {base : Nat} {e : TypeId} {v : Value} {n : Nat} {l : List Nat} (h : w.ownsRow base e 1 v n (l.map lcell)) (hs : ∀ x ∈ l, x < 18446744073709551616) :
    ∃ a cap, v = .slice a l.length cap ∧ Longs w a cap l := by
  have hn : n = l.length := by have := h.1; simp at this; omega
  subst hn
  rcases h.2 with ⟨rfl, h0⟩ | ⟨g, cap, cur, rfl, _, hg, hnc, hcm, hcs, htake⟩
  · have : l = [] := List.eq_nil_of_length_eq_zero h0
    subst this
    exact ⟨none, 0, rfl, by simp, by simp, by simp, fun h => absurd rfl h⟩
  · refine ⟨_, cap, rfl, hnc, hcm, hs, fun _ => ⟨g, 0, rfl, fun i x hx => ?_⟩⟩
    have h1 := h.cells (g := g) rfl i (lcell x) (by simp [hx])
    rw [Addr.add_lit] at h1
    exact h1

theorem longs_oneCell (l : List Nat) : ∀ u ∈ l.map lcell, u.oneCell' = true := by intro u hu; obtain ⟨x, _, rfl⟩ := List.mem_map.1 hu; rfl

theorem made_longs (n : Nat) : (madeCells #[Value.int .u64 0] n).toList = (List.replicate n 0).map lcell := by
  apply List.ext_getElem
  · simp [madeCells]
  · intro i h1 h2
    simp [madeCells, lcell, Nat.mod_one]

theorem low16 (n : Nat) (h : n < 18446744073709551616) : bits .and .u64 (n : Int) 65535 = ((n % 65536 : Nat) : Int) := by
  have := u64_and_nat n 65535 h (by omega)
  rw [show (65535 : Nat) = 2 ^ 16 - 1 from rfl, Nat.and_two_pow_sub_one_eq_mod] at this
  exact this

theorem wrap3 (o x d c : Nat) : IntKind.u64.wrap (IntKind.u64.wrap ((o : Int) + IntKind.u64.wrap ((x : Int) * (d : Int))) + (c : Int)) = (((o + x * d + c) % 18446744073709551616 : Nat) : Int) := by
  have h : (x : Int) * (d : Int) = ((x * d : Nat) : Int) := by simp
  rw [h]
  generalize x * d = m
  simp only [IntKind.wrap_u64]
  omega
theorem wrap2 (o c : Nat) : IntKind.u64.wrap ((o : Int) + (c : Int)) = (((o + c) % 18446744073709551616 : Nat) : Int) := by
  simp only [IntKind.wrap_u64]
  omega

theorem getD_of {l : List Nat} {i : Nat} (h : i < l.length) : l[i]? = some (l.getD i 0) := by simp [h]

theorem set_lcell (l : List Nat) (i x : Nat) : (l.map lcell).set i (.int .u64 (x : Int)) = (l.set i x).map lcell := by rw [List.map_set]; rfl

/-- The row that times makes, behind some steps. -/
structure Tr (w wr : World) (N : Nat) (l : List Nat) : Prop where
  own : wr.ownsRow w.heap.size 54 1 (.slice (some ⟨w.heap.size, 0, none⟩) N N) N (l.map lcell)
  len : l.length = N
  bel : Below w.heap.size w wr

theorem Tr.cell {w wr : World} {N : Nat} {l : List Nat} (h : Tr w wr N l) {i : Nat} (hi : i < N) : wr.cell? ⟨w.heap.size, i, none⟩ = some (.int .u64 ((l.getD i 0 : Nat) : Int)) := by
  rw [h.own.cellAt i (by omega), List.getElem?_map, getD_of (by rw [h.len]; exact hi)]; rfl
theorem Tr.frozen {w wr : World} {N : Nat} {l : List Nat} (h : Tr w wr N l) (i : Nat) : wr.frozen? ⟨w.heap.size, i, none⟩ = false := h.own.frozenAt i
theorem Tr.store {w wr : World} {N : Nat} {l : List Nat} (h : Tr w wr N l) (n i x : Nat) : Tr w ((wr.drewN n).setCell ⟨w.heap.size, i, none⟩ (.int .u64 (x : Int))) N (l.set i x) := by
  have ho : (wr.drewN n).ownsRow w.heap.size 54 1 (.slice (some ⟨w.heap.size, 0, none⟩) N N) N (l.map lcell) := h.own
  have h1 := (ho.stored i (.int .u64 (x : Int))).1
  rw [set_lcell] at h1
  exact ⟨h1, by rw [List.length_set]; exact h.len, (below_drewN h.bel n).setCell (p := ⟨w.heap.size, i, none⟩) (Nat.le_refl _) _⟩

set_option maxHeartbeats 1600000 in
set_option maxRecDepth 20000 in
theorem times_any (w : World) (a : Option Addr) (ca : Nat) (l : List Nat) (y : Nat) (ha : Longs w a ca l) (hl : l.length ≤ 100) (hy : y < 18446744073709551616) :
    Calls Tryd.prog 45 #[.slice a l.length ca, .int .u64 (y : Int)] w fun e w' => ∃ d, e = .returned (.slice (some d) (l.length + 4) (l.length + 4)) ∧ Longs w' (some d) (l.length + 4) (timesL l y) ∧ Below w.heap.size w w' := by
  obtain ⟨i5, hi, hz0, hz1, hz2⟩ := info_parts Tryd.info54
  have HA : Hid (Longs w a ca l) := ha
  clear ha
  go_enter Tryd.func45, Tryd.ntmps45
  go_wp2_with (at_make; refine wpList_make_full _ rfl _ _ 60 rfl w.heap.size 54 i5 (.int .u64 0) 1 Tryd.underlying60 hi hz0 hz1 .i64 .i64 _ _ (l.length + 4) rfl rfl ?ba ?bb ?b2 ?b3 ?b4 ?_)
  case ba => simp
  case bb => simp
  case b2 => rw [hz2]; omega
  case b3 => unfold maxLen; omega
  case b4 => exact Nat.le_refl _
  intro w1 hown hgrow
  have hbel : Below w.heap.size w w1 := (Below.refl _ _).grown hgrow (Nat.le_refl _) (by intro k h; cases h)
  clear hgrow
  have h0 : Tr w w1 (l.length + 4) (trow l y 0) := ⟨by show World.ownsRow _ _ _ _ _ _ ((List.replicate (l.length + 4) 0).map lcell); rw [← made_longs]; simpa using hown, trow_len l y 0, hbel⟩
  clear hown hbel
  go_wp2
  go_loopw [6, 7, 8, 9, 10] (fun k d c i n wr => ∃ kk : Nat, kk ≤ 3 ∧ k = .int .i64 kk ∧ Tr w wr (l.length + 4) (trow l y kk)) (fun k _ _ _ _ _ => 3 - (intOf k).toNat)
  case atStart => exact ⟨0, by omega, rfl, h0⟩
  case round =>
    obtain ⟨k, hk, rfl, hr⟩ := hrel
    clear h0
    by_cases hlt : k < 3
    · obtain ⟨d, hd⟩ : ∃ d, d = y / 2 ^ (16 * k) % 65536 := ⟨_, rfl⟩
      obtain ⟨out, hout⟩ : ∃ o, o = trow l y k := ⟨_, rfl⟩
      rw [← hout] at hr
      have Hnx : Hid (trow l y (k + 1) = lay l.length k (inn l d k out l.length)) := by rw [hd, hout]; exact rfl
      have ed : bits .and .u64 ((y : Int) / 2 ^ (16 * k)) 65535 = (d : Int) := by
        have h1 := low16 (y / 2 ^ (16 * k)) (Nat.lt_of_le_of_lt (Nat.div_le_self _ _) hy)
        rw [hd, ← h1]; simp
      have Hos : Hid (∀ x ∈ out, x < 18446744073709551616) := by rw [hout]; exact trow_small l y k
      clear hd hout
      go_wp2
      go_loopw [8, 9, 10] (fun c i n wr => ∃ ii : Nat, ii ≤ l.length ∧ i = .int .i64 ii ∧ c = .int .u64 (((inn l d k out ii).2 : Nat) : Int) ∧ Tr w wr (l.length + 4) (inn l d k out ii).1) (fun _ i _ _ => l.length - (intOf i).toNat)
      case atStart => exact ⟨0, by omega, rfl, rfl, hr⟩
      case round =>
        obtain ⟨i, hi', rfl, rfl, hr2⟩ := hrel
        clear hr
        by_cases hlt2 : i < l.length
        · obtain ⟨b1, o1, rfl, hc1⟩ := (HA.out.below hr2.bel).get (getD_of hlt2)
          obtain ⟨S, hS⟩ : ∃ S, S = inn l d k out i := ⟨_, rfl⟩
          have HN : Hid (inn l d k out (i + 1) = istep l d k i S) := by rw [hS]; exact rfl
          rw [← hS] at hr2 ⊢
          obtain ⟨so, sc⟩ := S
          have hco := hr2.cell (i := i + k) (by omega)
          have hfo := hr2.frozen (i + k)
          obtain ⟨x, hx⟩ : ∃ x, x = l.getD i 0 := ⟨_, rfl⟩
          obtain ⟨o, ho⟩ : ∃ x, x = so.getD (i + k) 0 := ⟨_, rfl⟩
          obtain ⟨n, hn⟩ : ∃ n, n = (o + x * d + sc) % 18446744073709551616 := ⟨_, rfl⟩
          have HN2 : Hid (istep l d k i (so, sc) = (so.set (i + k) (n % 65536), n / 65536)) := by rw [hn, ho, hx]; exact rfl
          have hnl : n < 18446744073709551616 := by omega
          rw [← hx] at hc1
          rw [← ho] at hco
          obtain ⟨q, hq⟩ : ∃ q, q = n % 65536 := ⟨_, rfl⟩
          have e1 : IntKind.u64.wrap (IntKind.u64.wrap ((o : Int) + IntKind.u64.wrap ((x : Int) * (d : Int))) + (sc : Int)) = (n : Int) := by rw [hn]; exact wrap3 o x d sc
          have e2 : bits .and .u64 (n : Int) 65535 = (q : Int) := by rw [hq]; exact low16 n hnl
          have HST : Hid (∀ m, Tr w ((wr.drewN m).setCell ⟨w.heap.size, i + k, none⟩ (.int .u64 (q : Int))) (l.length + 4) (so.set (i + k) q)) := fun m => hr2.store m (i + k) q
          have Hq : Hid (q = n % 65536) := hq
          clear hr2 hS hx ho hn hq ed
          have k1 : IntKind.i64.wrap ((i : Int) + (k : Int)) = ((i + k : Nat) : Int) := by rw [IntKind.wrap_i64]; omega
          have g0 : (0 : Int) ≤ (i : Int) := Int.natCast_nonneg _
          have g1 : (i : Int) < (l.length : Int) := by omega
          have g2 : (0 : Int) ≤ (i : Int) + (k : Int) := by omega
          have g3 : (i : Int) + (k : Int) < (l.length : Int) + 4 := by omega
          have g4 : ((i : Int) + (k : Int)).toNat = i + k := by omega
          go_wp2
          go_quiet (fail)
          go_wp2
          go_roundw
          case rel => exact ⟨i + 1, by omega, by go_num, by rw [HN.out, HN2.out]; simp, by rw [HN.out, HN2.out, ← Hq.out]; exact HST.out _⟩
          case measure => simp [intOf]; omega
        · obtain rfl : i = l.length := by omega
          obtain ⟨S, hS⟩ : ∃ S, S = inn l d k out l.length := ⟨_, rfl⟩
          rw [← hS] at hr2 ⊢
          have HN : Hid (trow l y (k + 1) = lay l.length k S) := by rw [hS]; exact Hnx.out
          obtain ⟨so, sc⟩ := S
          have hco := hr2.cell (i := l.length + k) (by omega)
          have hfo := hr2.frozen (l.length + k)
          obtain ⟨o, ho⟩ : ∃ x, x = so.getD (l.length + k) 0 := ⟨_, rfl⟩
          obtain ⟨n, hn⟩ : ∃ n, n = (o + sc) % 18446744073709551616 := ⟨_, rfl⟩
          have HN2 : Hid (lay l.length k (so, sc) = so.set (l.length + k) n) := by rw [hn, ho]; exact rfl
          rw [← ho] at hco
          have e1 : IntKind.u64.wrap ((o : Int) + (sc : Int)) = (n : Int) := by rw [hn]; exact wrap2 o sc
          have HST : Hid (∀ m, Tr w ((wr.drewN m).setCell ⟨w.heap.size, l.length + k, none⟩ (.int .u64 (n : Int))) (l.length + 4) (so.set (l.length + k) n)) := fun m => hr2.store m (l.length + k) n
          clear hr2 hS ho hn ed Hnx
          have k1 : IntKind.i64.wrap ((l.length : Int) + (k : Int)) = ((l.length + k : Nat) : Int) := by rw [IntKind.wrap_i64]; omega
          have g2 : (0 : Int) ≤ (l.length : Int) + (k : Int) := by omega
          have g3 : (l.length : Int) + (k : Int) < (l.length : Int) + 4 := by omega
          have g4 : ((l.length : Int) + (k : Int)).toNat = l.length + k := by omega
          go_wp2
          go_roundw
          case rel => exact ⟨k + 1, by omega, by go_num, by rw [HN.out, HN2.out]; exact HST.out 0⟩
          case measure => simp [intOf]; omega
    · obtain rfl : k = 3 := by omega
      obtain ⟨r, cap, hv, hs⟩ := Longs.of_own hr.own (trow_small l y 3)
      rw [hr.len] at hv
      simp only [Value.slice.injEq] at hv
      rw [← hv.1, ← hv.2.2] at hs
      have hbl := hr.bel
      clear hv hr
      go_wp2
      go_ret
      exact ⟨_, rfl, hs, hbl⟩
end Go.Proofs.YtonfjldfalnalaaDoor
