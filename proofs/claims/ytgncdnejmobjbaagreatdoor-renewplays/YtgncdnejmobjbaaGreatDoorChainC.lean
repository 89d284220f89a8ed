/-
  The contract of chain.All: a range over the iterator that fills a list of keys from behind.
  What the calls of package chain answer, over plain lists; the contracts of the program's Back, Key, All, Seed, Follows, and of awake.
-/
import Derived.Test.YtgncdnejmobjbaaGreatDoorChainA
namespace Go.Proofs.YtgncdnejmobjbaaGreatDoor
open Go.ChangeShapes Go.WideShapes Go.ChangeAt Go.RowKit Go.Shelf
set_option maxRecDepth 20000
attribute [local go_sem] Oper.semAt_some

/-- All keys of a chain, that of the place 0 first. -/
def allL (n : Nat) (key : List UInt8) : List (List UInt8) := (List.range (n + 1)).map fun i => backL (n - i) key
theorem allL_len (n : Nat) (key : List UInt8) : (allL n key).length = n + 1 := by simp [allL]
theorem allL_get (n : Nat) (key : List UInt8) (i : Nat) (h : i ≤ n) : (allL n key)[i]? = some (backL (n - i) key) := by
  simp [allL, List.getElem?_map, List.getElem?_range (show i < n + 1 by omega)]

/-- What the list of keys holds once those of s were told, the last key first. -/
def rowL (n : Nat) (s : List Loc) : List Value := List.replicate (n + 1 - s.length) (.slice none 0 0) ++ (s.map fun p => Value.slice p.1 16 p.2).reverse
theorem rowL_len (n : Nat) (s : List Loc) (h : s.length ≤ n + 1) : (rowL n s).length = n + 1 := by simp [rowL]; omega
theorem rowL_zero (n : Nat) : rowL n [] = List.replicate (n + 1) (.slice none 0 0) := by simp [rowL]
theorem rowL_set (n : Nat) (s : List Loc) (p : Loc) (q : Nat) (h : q + s.length = n) : (rowL n s).set q (.slice p.1 16 p.2) = rowL n (s ++ [p]) := by
  unfold rowL
  rw [List.length_append, List.length_singleton, show n + 1 - s.length = q + 1 by omega, show n + 1 - (s.length + 1) = q by omega, List.replicate_succ', List.append_assoc, List.set_append_right _ _ (by simp)]
  simp
theorem rowL_at (n : Nat) (s : List Loc) (q : Nat) (h : q + s.length = n) : (rowL n s)[q]? = some (.slice none 0 0) := by
  unfold rowL
  rw [List.getElem?_append_left (by simp; omega), List.getElem?_replicate]
  simp; omega
theorem rowL_val (n : Nat) (s : List Loc) : ∀ (j : Nat) (y : Int), (rowL n s).toArray[j]? ≠ some (.int .u8 y) := by
  intro j y h
  rw [List.getElem?_toArray] at h
  have hm := List.mem_of_getElem? h
  unfold rowL at hm
  simp only [List.mem_append, List.mem_replicate, List.mem_reverse, List.mem_map] at hm
  rcases hm with ⟨_, h⟩ | ⟨p, _, h⟩ <;> cases h
theorem rowL_full (n : Nat) (s : List Loc) (hs : s.length = n + 1) (i : Nat) (hi : i ≤ n) : ∃ p, s[n - i]? = some p ∧ (rowL n s)[i]? = some (.slice p.1 16 p.2) := by
  obtain ⟨p, hp⟩ : ∃ p, s[n - i]? = some p := ⟨s[n - i]'(by omega), by simp⟩
  refine ⟨p, hp, ?_⟩
  unfold rowL
  rw [show n + 1 - s.length = 0 by omega, List.replicate_zero, List.nil_append, List.getElem?_reverse (by simp; omega), List.length_map, show s.length - 1 - i = n - i by omega, List.getElem?_map, hp]
  rfl

/-- All keys lie there. -/
def Full (W : World) (g n : Nat) (key : List UInt8) : Prop := ∃ s : List Loc, s.length = n + 1 ∧ W.heap[g]? = some (.cells (rowL n s).toArray 24 (0, 0)) ∧ Told W key s
theorem Full.rows {W : World} {g n : Nat} {key : List UInt8} (h : Full W g n key) (hk : key.length = 16) (hn : n ≤ 256) : Rowss W (some ⟨g, 0, none⟩) (n + 1) (allL n key) := by
  obtain ⟨s, hs, hg, ht⟩ := h
  refine ⟨by rw [allL_len]; omega, by unfold maxLen; omega, fun r bs hr => ⟨g, 0, rfl, ?_⟩⟩
  have hrn : r < n + 1 := by have := (List.getElem?_eq_some_iff.1 hr).1; rw [allL_len] at this; exact this
  rw [allL_get n key r (by omega)] at hr
  simp only [Option.some.injEq] at hr
  subst hr
  obtain ⟨p, hp, hv⟩ := rowL_full n s hs r (by omega)
  refine ⟨p.1, p.2, ?_, ht _ _ hp⟩
  rw [cell_of_row W g (0 + r) _ _ _ hg, Nat.zero_add, List.getElem?_toArray, hv, backL_len _ _ hk]
theorem Full.put {W : World} {g n : Nat} {key : List UInt8} (h : Full W g n key) {l : Nat} {o : Obj} (o' : Obj) (hl : W.heap[l]? = some o) (ho : o.isCells = false) : Full (W.putObj l o') g n key := by
  obtain ⟨s, hs, hg, ht⟩ := h
  refine ⟨s, hs, ?_, fun i p hi => (ht i p hi).put o' hl ho⟩
  rw [World.putObj_heap_other, hg]
  rintro rfl
  rw [hl] at hg
  cases hg
  cases ho
theorem Rowss.below {w w' : World} {a : Option Addr} {cap : Nat} {L : List (List UInt8)} (h : Rowss w a cap L) (hb : Below w.heap.size w w') : Rowss w' a cap L :=
  ⟨h.fits, h.room, fun r bs hr => by
    obtain ⟨b, off, ha, x, cx, hc, hs⟩ := h.at' r bs hr
    exact ⟨b, off, ha, x, cx, by rw [hb.cell (p := ⟨b, off + r, none⟩) (World.block_lt_of_cell? w _ hc), hc], hs.below hb⟩⟩
theorem Rowss.nil (w : World) : Rowss w none 0 [] := ⟨by simp, by simp, fun r bs h => by simp at h⟩

theorem made_slices (n : Nat) : (madeCells #[Value.slice none 0 0] n).toList = List.replicate n (.slice none 0 0) := by
  apply List.ext_getElem
  · simp [madeCells]
  · intro i h1 h2
    simp [madeCells, Nat.mod_one]

theorem Tryz.info24 : (Tryz.prog.info? 24).map (fun i => (i.zero, i.size, i.bytes)) = some (some (.slice none 0 0), 1, 24) := by kernel_rfl

theorem wpListIn_make_full {F : Fence} {n : Nat} {P : Program} (w : World) {ops : Array Oper} {rest : List Oper} {o : Oper} {a : Act} {Q : Exit → Act → World → Prop}
    (hg : o.guard = none) (l c : Operand) (t : TypeId) (hop : o.op = Op.makeSlice t l c)
    (base : Nat) (e : TypeId) (i : TypeInfo) (z : Value) (size : Nat) (h1 : P.underlying t = some (.slice e)) (h2 : P.info? e = some i) (h3 : i.zero = some z) (h4 : i.size = size)
    (kl kc : IntKind) (L C : Int) (m : Nat) (hl : a.eval l = .int kl L) (hc : a.eval c = .int kc C) (hL : L = (m : Int)) (hC : C = (m : Int)) (b2 : i.bytes * m ≤ 281474976710656) (b3 : m ≤ maxLen) (b4 : base ≤ w.heap.size)
    (hK : ∀ w', w'.ownsRow base e size (.slice (some ⟨w.heap.size, 0, none⟩) m m) m (madeCells z.cells (m * size)).toList → w.grownBy w' none → wpListIn F n P ops Q rest (a.put o.dst (.slice (some ⟨w.heap.size, 0, none⟩) m m)) w') :
    wpListIn F n P ops Q (o :: rest) a w := by
  refine wpListIn_plain hg fun K hK' => ?_
  obtain ⟨w', hrun, r1, r2⟩ := run_make_full (P := P) w base t e i z size h1 h2 h3 h4 kl kc m b2 b3 b4
  subst hL
  subst hC
  unfold Oper.wpIn
  refine ⟨?_, ?_⟩
  · simp [Oper.about, hop]
  · rw [Oper.semAt_plain F _ _ (by rw [hop]; intro c hc'; cases hc')]
    simp [execOp, hop, hl, hc, hrun, Result.andThen]
    exact hK' _ _ (hK w' r1 r2)

/-- A made list of keys, as a block. -/
theorem row_made {w : World} {base g n N : Nat} (hN : N = n + 1) (h : w.ownsRow base 24 1 (.slice (some ⟨g, 0, none⟩) N N) N (madeCells #[Value.slice none 0 0] N).toList) : w.heap[g]? = some (.cells (rowL n []).toArray 24 (0, 0)) := by
  rcases h.2 with ⟨h', _⟩ | ⟨g', cap', cur, h', _, hg, _, _, hcs, htake⟩
  · simp at h'
  · simp only [Value.slice.injEq, Option.some.injEq, Addr.mk.injEq, and_true, true_and] at h'
    obtain ⟨rfl, rfl⟩ := h'
    rw [hg]
    have e1 : cur.toList = rowL n [] := by
      rw [made_slices, List.take_of_length_le (by simp [hcs])] at htake
      rw [htake, rowL_zero, hN]
    rw [← e1]

theorem Boxed.row {V : World} {b t g q : Nat} {u : Value} (h : Boxed V b t u) (v : Value) (hne : b ≠ g) : Boxed (V.setCell ⟨g, q, none⟩ v) b t u := (Below.heap_setCell V ⟨g, q, none⟩ v b (fun e => hne (by rw [e]))).trans h

/-- Between two rounds of All. -/
def AI (w : World) (n o b : Nat) (d : Option Addr) (cd : Nat) (key : List UInt8) (s : List Loc) (W : World) : Prop :=
  Boxed W o 50 (.slice (some ⟨w.heap.size, 0, none⟩) (n + 1) (n + 1)) ∧ W.heap[w.heap.size]? = some (.cells (rowL n s).toArray 24 (0, 0)) ∧ Boxed W b 3 (.int .i64 (n : Int)) ∧ Boxed W (b + 1) 24 (.slice d 16 cd) ∧ Sees W d cd key ∧ Told W key s ∧ s.length ≤ n + 1 ∧ Below w.heap.size w W
theorem AI.turned {w : World} {n o b : Nat} {d : Option Addr} {cd : Nat} {key : List UInt8} {s : List Loc} {W W' : World} {B : Nat} (h : AI w n o b d cd key s W) (hB : w.heap.size ≤ B) (ht : Turned B W W') : AI w n o b d cd key s W' := by
  obtain ⟨h1, h2, h3, h4, h5, h6, h7, h8⟩ := h
  exact ⟨ht.boxed h1, ht.block h2 rfl, ht.boxed h3, ht.boxed h4, ht.sees h5, h6.turned ht, h7, ht.below h8 hB⟩
theorem AI.below {w : World} {n o b : Nat} {d : Option Addr} {cd : Nat} {key : List UInt8} {s : List Loc} {W W' : World} (h : AI w n o b d cd key s W) (hb : Below W.heap.size W W') : AI w n o b d cd key s W' := by
  obtain ⟨h1, h2, h3, h4, h5, h6, h7, h8⟩ := h
  exact ⟨Boxed.below h1 hb, by rw [hb.block _ (Array.getElem?_eq_some_iff.1 h2).1]; exact h2, Boxed.below h3 hb, Boxed.below h4 hb, h5.below hb, h6.below hb, h7, h8.trans (hb.mono h8.size)⟩
theorem AI.next {w : World} {n o b : Nat} {d : Option Addr} {cd : Nat} {key : List UInt8} {s : List Loc} {W : World} (h : AI w n o b d cd key s W) (ho : o ≠ w.heap.size) (hb : w.heap.size < b) (p : Loc) (q : Nat) (hq : q + s.length = n) (hp : Sees W p.1 p.2 (backL s.length key)) :
    KeepsOthers W (W.setCell ⟨w.heap.size, q, none⟩ (.slice p.1 16 p.2)) ∧ AI w n o b d cd key (s ++ [p]) (W.setCell ⟨w.heap.size, q, none⟩ (.slice p.1 16 p.2)) := by
  obtain ⟨h1, h2, h3, h4, h5, h6, h7, h8⟩ := h
  refine ⟨KeepsOthers.setCell _ _ _, Boxed.row h1 _ ho, ?_, Boxed.row h3 _ (by omega), Boxed.row h4 _ (by omega), h5.slot h2 (rowL_val n s) _ _, (h6.push p hp).slot h2 (rowL_val n s) _ _, by simp; omega, h8.setCell (p := ⟨w.heap.size, q, none⟩) (Nat.le_refl _) _⟩
  rw [heap_setCell_same W w.heap.size q _ 24 _ h2, ← rowL_set n s p q hq]
  simp

end Go.Proofs.YtgncdnejmobjbaaGreatDoor

namespace Go.Proofs.YtgncdnejmobjbaaGreatDoor
open Go.ChangeShapes Go.WideShapes Go.ChangeAt Go.RowKit
set_option maxRecDepth 20000

def backP (key : List UInt8) (n : Int) : List UInt8 × Nat := if key.length = 16 ∧ 0 ≤ n ∧ n ≤ 256 then (backL n.toNat key, 0) else ([], 1)
def keyC (seed : List UInt8) (n i : Int) : List UInt8 × Nat := if seed.length = 16 ∧ 1 ≤ n ∧ n ≤ 256 ∧ 0 ≤ i ∧ i ≤ n then (backL (n - i).toNat (lastL seed), 0) else ([], 1)
def seedP (own : List UInt8) (e : Int) : List UInt8 × Nat := if own.length = 16 ∧ 0 ≤ e ∧ e ≤ 65535 then (keyOf own epochN [e.toNat], 0) else ([], 1)
def allP (seed : List UInt8) (n : Int) : List (List UInt8) × Nat := if seed.length = 16 ∧ 1 ≤ n ∧ n ≤ 256 then (allL n.toNat (lastL seed), 0) else ([], 1)
def folP (i : Int) (known : List UInt8) (j : Int) (key : List UInt8) : Nat :=
  if 0 ≤ i ∧ i ≤ 256 ∧ 0 ≤ j ∧ j ≤ 256 ∧ known.length = 16 ∧ key.length = 16 then (if j < i then 10 else if backL (j - i).toNat key = known then 0 else 11) else 1

theorem tells16 {w w' : World} {d : Option Addr} {cd : Nat} {r : List UInt8} (hr : r.length = 16) (hs : Sees w' d cd r) (hb : Below w.heap.size w w') : Tells w w' (.returned (.tuple #[.slice d 16 cd, .int .i64 0])) r 0 := ⟨d, cd, by rw [hr]; rfl, hs, hb⟩
theorem tells_no {w w' : World} (hb : Below w.heap.size w w') : Tells w w' (.returned (.tuple #[.slice none 0 0, .int .i64 1])) [] 1 := ⟨none, 0, rfl, Sees.nil' _, hb⟩

/-- An answer of lists of bytes. -/
def RTells (w w' : World) (e : Ending) (L : List (List UInt8)) (q : Nat) : Prop := ∃ d cd, e = .returned (.tuple #[.slice d L.length cd, .int .i64 (q : Int)]) ∧ Rowss w' d cd L ∧ Below w.heap.size w w'
theorem rtells_full {w w' : World} {g n : Nat} {key : List UInt8} (hk : key.length = 16) (hn : n ≤ 256) (hf : Full w' g n key) (hb : Below w.heap.size w w') : RTells w w' (.returned (.tuple #[.slice (some ⟨g, 0, none⟩) (n + 1) (n + 1), .int .i64 0])) (allL n key) 0 :=
  ⟨_, _, by rw [allL_len]; rfl, hf.rows hk hn, hb⟩
theorem rtells_no {w w' : World} (hb : Below w.heap.size w w') : RTells w w' (.returned (.tuple #[.slice none 0 0, .int .i64 1])) [] 1 := ⟨none, 0, rfl, Rowss.nil _, hb⟩

set_option maxHeartbeats 800000 in
set_option maxRecDepth 20000 in
theorem back_any (w : World) (a : Option Addr) (ca : Nat) (key : List UInt8) (n : Int) (hF : FTab w) (hT : KTab w) (ha : Sees w a ca key) :
    Calls Tryz.prog 49 #[.slice a key.length ca, .int .i64 n] w fun e w' => Tells w w' e (backP key n).1 (backP key n).2 := by
  have hkm : key.length ≤ 9223372036854775807 := by have := ha.fits; have := ha.room; unfold maxLen at this; omega
  by_cases hg : key.length = 16 ∧ 0 ≤ n ∧ n ≤ 256
  · have hP : backP key n = (backL n.toNat key, 0) := by unfold backP; rw [if_pos hg]
    rw [hP]
    obtain ⟨h16, h0, h1⟩ := hg
    obtain ⟨m, rfl⟩ : ∃ m : Nat, n = (m : Int) := ⟨n.toNat, by omega⟩
    rw [h16, Int.toNat_natCast]
    have k1 := isKey_yes w a ca
    have k2 := isPlace_yes w (m : Int) h0 h1
    have k3 : Calls Tryz.prog 71 #[.int .i64 (m : Int), .slice a 16 ca, .int .i64 0] w _ := reach_ok w a ca key h16 0 m (by omega) (by omega) hF hT ha
    have HL : Hid ((backL m key).length = 16) := backL_len m key h16
    clear hP h0 h1 hF hT ha hkm h16
    go_enter Tryz.func49, Tryz.ntmps49
    go_wp2_with fail
    refine k1.mono ?_
    rintro e w1 ⟨rfl, rfl⟩
    clear k1
    go_wp2_with fail
    refine k2.mono ?_
    rintro e w1 ⟨rfl, rfl⟩
    clear k2
    go_wp2_with fail
    refine k3.mono ?_
    rintro e w3 ⟨d, cd, rfl, hs, hb⟩
    clear k3
    go_wp2
    go_ret2
    exact tells16 HL.out hs hb
  · have hP : backP key n = ([], 1) := by unfold backP; rw [if_neg hg]
    rw [hP]
    by_cases h16 : key.length = 16
    · have k1 := isKey_yes w a ca
      have k2 := isPlace_no w n (by omega)
      rw [h16]
      clear hP hg hF hT ha hkm h16
      go_enter Tryz.func49, Tryz.ntmps49
      go_wp2_with fail
      refine k1.mono ?_
      rintro e w1 ⟨rfl, rfl⟩
      clear k1
      go_wp2_with fail
      refine k2.mono ?_
      rintro e w1 ⟨rfl, rfl⟩
      clear k2
      go_wp2
      go_ret2
      exact tells_no (Below.refl _ _)
    · have k1 := isKey_no w a key.length ca h16 hkm
      clear hP hg hF hT ha h16
      go_enter Tryz.func49, Tryz.ntmps49
      go_wp2_with fail
      refine k1.mono ?_
      rintro e w1 ⟨rfl, rfl⟩
      clear k1
      go_wp2
      go_ret2
      exact tells_no (Below.refl _ _)

set_option maxHeartbeats 800000 in
set_option maxRecDepth 20000 in
theorem keyc_any (w : World) (a : Option Addr) (ca : Nat) (seed : List UInt8) (n i : Int) (hF : FTab w) (hT : KTab w) (ha : Sees w a ca seed) :
    Calls Tryz.prog 47 #[.slice a seed.length ca, .int .i64 n, .int .i64 i] w fun e w' => Tells w w' e (keyC seed n i).1 (keyC seed n i).2 := by
  have hkm : seed.length ≤ 9223372036854775807 := by have := ha.fits; have := ha.room; unfold maxLen at this; omega
  by_cases hc : seed.length = 16 ∧ 1 ≤ n ∧ n ≤ 256
  · obtain ⟨h16, h1, h2⟩ := hc
    by_cases hi : 0 ≤ i ∧ i ≤ n
    · obtain ⟨h3, h4⟩ := hi
      have hP : keyC seed n i = (backL (n - i).toNat (lastL seed), 0) := by unfold keyC; rw [if_pos ⟨h16, h1, h2, h3, h4⟩]
      rw [hP]
      obtain ⟨m, rfl⟩ : ∃ m : Nat, n = (m : Int) := ⟨n.toNat, by omega⟩
      obtain ⟨j, rfl⟩ : ∃ j : Nat, i = (j : Int) := ⟨i.toNat, by omega⟩
      rw [h16, show ((m : Int) - (j : Int)).toNat = m - j by omega]
      have k1 := isChain_yes w a ca (m : Int) h1 h2
      have k2 := last_ok w a ca seed hF hT ha h16
      have HF : Hid (FTab w) := hF
      have HT : Hid (KTab w) := hT
      have HJ : Hid (j ≤ m ∧ m ≤ 256) := ⟨by omega, by omega⟩
      have HL : Hid ((backL (m - j) (lastL seed)).length = 16) := backL_len _ _ (lastL_len seed)
      have d1 : decide ((j : Int) < 0) = false := decide_eq_false (by omega)
      have d2 : decide ((m : Int) < (j : Int)) = false := decide_eq_false (by omega)
      have d3 : decide (m < j) = false := decide_eq_false (by omega)
      clear hP h1 h2 h3 h4 hF hT ha hkm h16
      go_enter Tryz.func47, Tryz.ntmps47
      go_wp2_with fail
      refine k1.mono ?_
      rintro e w1 ⟨rfl, rfl⟩
      clear k1
      go_wp2_with fail
      refine k2.mono ?_
      rintro e w2 ⟨d, cd, rfl, hs, hb⟩
      have k3 := reach_ok w2 d cd (lastL seed) (lastL_len seed) j m HJ.out.1 HJ.out.2 (HF.out.below hb) (HT.out.below hb) hs
      clear k2 hs
      go_wp2_with fail
      refine k3.mono ?_
      rintro e w3 ⟨d3, cd3, rfl, hs3, hb3⟩
      clear k3
      go_wp2
      go_ret2
      exact tells16 HL.out hs3 (hb.trans (hb3.mono hb.size))
    · have hP : keyC seed n i = ([], 1) := by unfold keyC; rw [if_neg (by omega)]
      rw [hP, h16]
      have k1 := isChain_yes w a ca n h1 h2
      by_cases h3 : i < 0
      · clear hP hi h1 h2 hF hT ha hkm h16
        go_enter Tryz.func47, Tryz.ntmps47
        go_wp2_with fail
        refine k1.mono ?_
        rintro e w1 ⟨rfl, rfl⟩
        clear k1
        go_wp2
        go_ret2
        exact tells_no (Below.refl _ _)
      · have d1 : decide (i < 0) = false := decide_eq_false h3
        have d2 : n < i := by omega
        clear hP hi h1 h2 h3 hF hT ha hkm h16
        go_enter Tryz.func47, Tryz.ntmps47
        go_wp2_with fail
        refine k1.mono ?_
        rintro e w1 ⟨rfl, rfl⟩
        clear k1
        go_wp2
        go_ret2
        exact tells_no (Below.refl _ _)
  · have hP : keyC seed n i = ([], 1) := by unfold keyC; rw [if_neg (by omega)]
    rw [hP]
    have k1 := isChain_no w a seed.length ca n hkm (by omega)
    clear hP hc hF hT ha
    go_enter Tryz.func47, Tryz.ntmps47
    go_wp2_with fail
    refine k1.mono ?_
    rintro e w1 ⟨rfl, rfl⟩
    clear k1
    go_wp2
    go_ret2
    exact tells_no (Below.refl _ _)

set_option maxHeartbeats 800000 in
set_option maxRecDepth 20000 in
theorem seed_any (w : World) (a : Option Addr) (ca : Nat) (own : List UInt8) (n : Int) (hF : FTab w) (hT : KTab w) (ha : Sees w a ca own) :
    Calls Tryz.prog 24 #[.slice a own.length ca, .int .i64 n] w fun e w' => Tells w w' e (seedP own n).1 (seedP own n).2 := by
  have hkm : own.length ≤ 9223372036854775807 := by have := ha.fits; have := ha.room; unfold maxLen at this; omega
  by_cases hg : own.length = 16 ∧ 0 ≤ n ∧ n ≤ 65535
  · have hP : seedP own n = (keyOf own epochN [n.toNat], 0) := by unfold seedP; rw [if_pos hg]
    rw [hP]
    obtain ⟨h16, h0, h1⟩ := hg
    obtain ⟨m, rfl⟩ : ∃ m : Nat, n = (m : Int) := ⟨n.toNat, by omega⟩
    rw [Int.toNat_natCast]
    have k1 := isKey_yes w a ca
    have hb0 : Below w.heap.size w (w.alloc (.cells #[.int .u64 (m : Int)] 87)) := (Below.refl _ _).alloc (Nat.le_refl _) _
    have hL : Longs (w.alloc (.cells #[.int .u64 (m : Int)] 87)) (some ⟨w.heap.size, 0, none⟩) 1 [m] := Longs.lit w 87 [m] (by simp) (by simp; omega)
    have hk : Calls Tryz.prog 46 #[.slice a own.length ca, .string { data := #[101, 112, 111, 99, 104] }, .slice (some ⟨w.heap.size, 0, none⟩) 1 1] (w.alloc (.cells #[.int .u64 (m : Int)] 87)) fun e w' => Says (w.alloc (.cells #[.int .u64 (m : Int)] 87)) w' e (keyP own epochN [m]) := key_ok _ a ca own epochN _ 1 [m] (by simp [epochN]) (hF.below hb0) (hT.below hb0) (ha.below hb0) hL
    rw [keyP_ok _ _ _ seed_labels.2 (by simp) (by omega), h16] at hk
    rw [h16]
    have hm : m ≤ 65535 := by omega
    have d1 : decide ((m : Int) < 0) = false := decide_eq_false (by omega)
    have d2 : decide ((65535 : Int) < (m : Int)) = false := decide_eq_false (by omega)
    clear hP h0 h1 hF hT ha hL h16 hkm
    go_enter Tryz.func24, Tryz.ntmps24
    go_wp2_with fail
    refine k1.mono ?_
    rintro e w1 ⟨rfl, rfl⟩
    clear k1
    go_wp2_with fail
    refine hk.mono ?_
    rintro e w5 ⟨d5, c5, r5, hr5, rfl, hs5, hb5⟩
    have hr : r5 = keyOf own epochN [m] := hr5.out
    have HR : Hid (r5 = keyOf own epochN [m]) := hr
    clear hk hr hr5
    go_wp2
    go_ret2
    rw [← HR.out]
    exact ⟨d5, c5, rfl, hs5, hb0.trans (hb5.mono hb0.size)⟩
  · have hP : seedP own n = ([], 1) := by unfold seedP; rw [if_neg hg]
    rw [hP]
    by_cases h16 : own.length = 16
    · have k1 := isKey_yes w a ca
      rw [h16]
      by_cases h0 : n < 0
      · clear hP hg hF hT ha h16 hkm
        go_enter Tryz.func24, Tryz.ntmps24
        go_wp2_with fail
        refine k1.mono ?_
        rintro e w1 ⟨rfl, rfl⟩
        clear k1
        go_wp2
        go_ret2
        exact tells_no (Below.refl _ _)
      · have d1 : decide (n < 0) = false := decide_eq_false h0
        have d2 : 65535 < n := by omega
        clear hP hg hF hT ha h16 hkm h0
        go_enter Tryz.func24, Tryz.ntmps24
        go_wp2_with fail
        refine k1.mono ?_
        rintro e w1 ⟨rfl, rfl⟩
        clear k1
        go_wp2
        go_ret2
        exact tells_no (Below.refl _ _)
    · have k1 := isKey_no w a own.length ca h16 hkm
      clear hP hg hF hT ha h16
      go_enter Tryz.func24, Tryz.ntmps24
      go_wp2_with fail
      refine k1.mono ?_
      rintro e w1 ⟨rfl, rfl⟩
      clear k1
      go_wp2
      go_ret2
      exact tells_no (Below.refl _ _)

end Go.Proofs.YtgncdnejmobjbaaGreatDoor
