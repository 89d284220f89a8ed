/-
  A slice that reads as a list of bytes, in whatever memory; what it gives, and what keeps it. No program here.
-/
import Derived.WalkKit
import Derived.ProofKit
import Derived.OpenShut
import Derived.Laws.BitsAllLaws
import Derived.Laws.BytesArg
import Derived.Laws.OwnMore
import Derived.Below
import Derived.Deep.Quiet
import Derived.SizedLaws
import Derived.ChangeOld
import Derived.ShutString
namespace Go.Proofs.Ytfifcfdlmpgohaa
open Go.ChangeShapes Go.WideShapes Go.ChangeAt Go.RowKit

/-- A byte as a cell. -/
def cellOf (x : UInt8) : Value := .int .u8 x.toNat

/-- The slice value '.slice a bs.length cap' reads as the bytes bs. -/
structure Sees (w : World) (a : Option Addr) (cap : Nat) (bs : List UInt8) : Prop where
  fits : bs.length ≤ cap
  room : cap ≤ maxLen
  bare : a = none → cap = 0
  at' : bs ≠ [] → ∃ b off, a = some ⟨b, off, none⟩ ∧ ∀ i x, bs[i]? = some x → w.cell? ⟨b, off + i, none⟩ = some (.int .u8 x.toNat)

theorem Sees.get {w : World} {a : Option Addr} {cap : Nat} {bs : List UInt8} (h : Sees w a cap bs) {k : Nat} {x : UInt8} (hx : bs[k]? = some x) :
    ∃ b off, a = some ⟨b, off, none⟩ ∧ w.cell? ⟨b, off + k, none⟩ = some (.int .u8 x.toNat) := by
  obtain ⟨b, off, ha, hc⟩ := h.at' (by rintro rfl; simp at hx)
  exact ⟨b, off, ha, hc k x hx⟩

theorem Sees.below {w w' : World} {a : Option Addr} {cap : Nat} {bs : List UInt8} (h : Sees w a cap bs) (hb : Below w.heap.size w w') : Sees w' a cap bs :=
  ⟨h.fits, h.room, h.bare, fun hne => by
    obtain ⟨b, off, ha, hc⟩ := h.at' hne
    refine ⟨b, off, ha, fun i x hx => ?_⟩
    have h1 := hc i x hx
    rw [hb.cell (p := ⟨b, off + i, none⟩) (World.block_lt_of_cell? w _ h1), h1]⟩

theorem Sees.nil' (w : World) : Sees w none 0 [] := ⟨by simp, by simp, fun _ => rfl, fun h => absurd rfl h⟩

/-- What a call owns reads as its cells. -/
theorem Sees.of_own {w : World} {base : Nat} {e : TypeId} {v : Value} {n : Nat} {bs : List UInt8} (h : w.ownsRow base e 1 v n (bs.map cellOf)) :
    ∃ a cap, v = .slice a bs.length cap ∧ Sees w a cap bs := by
  have hn : n = bs.length := by have := h.1; simp at this; omega
  subst hn
  rcases h.2 with ⟨rfl, h0⟩ | ⟨g, cap, cur, rfl, _, hg, hnc, hcm, hcs, htake⟩
  · have : bs = [] := List.eq_nil_of_length_eq_zero h0
    subst this
    exact ⟨none, 0, rfl, Sees.nil' w⟩
  · refine ⟨_, cap, rfl, hnc, hcm, by simp, fun _ => ⟨g, 0, rfl, fun i x hx => ?_⟩⟩
    have h1 := h.cells (g := g) rfl i (cellOf x) (by simp [hx])
    rw [Addr.add_lit] at h1
    exact h1

theorem Sees.take {w : World} {a : Option Addr} {cap : Nat} {bs : List UInt8} (h : Sees w a cap bs) (k : Nat) : Sees w a cap (bs.take k) :=
  ⟨Nat.le_trans (by rw [List.length_take]; exact Nat.min_le_right _ _) h.fits, h.room, h.bare, fun hne => by
    obtain ⟨b, off, ha, hc⟩ := h.at' (by rintro rfl; simp at hne)
    refine ⟨b, off, ha, fun i x hx => hc i x ?_⟩
    rw [List.getElem?_take] at hx
    split at hx
    · exact hx
    · simp at hx⟩

/-- Its cells, as what is appended. -/
theorem Sees.news {w : World} {a : Option Addr} {cap : Nat} {bs : List UInt8} (h : Sees w a cap bs) : ∀ ad, a = some ad → ∀ j u, (bs.map cellOf)[j]? = some u → w.cell? (ad.add j) = some u := by
  intro ad had j u hu
  rw [List.getElem?_map] at hu
  obtain ⟨x, hx, rfl⟩ := Option.map_eq_some_iff.1 hu
  obtain ⟨b, off, ha, hc⟩ := h.get hx
  rw [had] at ha
  obtain rfl := Option.some.inj ha
  rw [Addr.add_lit, hc]; rfl

theorem bytes_oneCell (bs : List UInt8) : ∀ u ∈ bs.map cellOf, u.oneCell' = true := by
  intro u hu
  obtain ⟨x, _, rfl⟩ := List.mem_map.1 hu
  rfl

theorem strBytes_eq (bs : List UInt8) : strOfNums (bs.map fun x => (x.toNat : Int)) = ⟨bs.toArray⟩ := by
  simp [strOfNums, Function.comp_def]

/-- 'string(b)'. -/
theorem Sees.convert {P : Program} {w : World} {a : Option Addr} {cap : Nat} {bs : List UInt8} (h : Sees w a cap bs) (src e dst : TypeId)
    (hs : P.underlying src = some (.slice e)) (he : P.underlying e = some (.int .u8)) (hd : P.underlying dst = some .string) :
    (Go.convert src dst (.slice a bs.length cap)).run P w = .ok (.string ⟨bs.toArray⟩) w := by
  by_cases hne : bs = []
  · subst hne
    cases a with
    | none => exact run_convert_bytes_nil w src e hs he 0 cap dst hd
    | some ad =>
      show (Go.convert src dst (.slice (some ad) 0 cap)).run P w = _
      rw [run_convert_bytes_string w src dst e _ 0 cap hs he hd, run_bytesToString w ad 0 cap [] (by simp [loadCells, loadCellsFrom])]
      rfl
  · obtain ⟨b, off, rfl, hc⟩ := h.at' hne
    rw [← strBytes_eq]
    refine run_convert_bytes_arg w src e hs he b off bs.length cap _ (by simp) (fun i hi => ?_) dst hd
    rw [hc i bs[i] (by simp [hi])]
    simp [hi]

theorem toNat_lt256 (x : UInt8) : x.toNat < 256 := x.toNat_lt

theorem bxor (x y : UInt8) : bits .xor .u8 (x.toNat : Int) (y.toNat : Int) = ((x ^^^ y).toNat : Int) := by
  rw [u8_xor_nat _ _ (toNat_lt256 x) (toNat_lt256 y), UInt8.toNat_xor]
theorem bor (x y : UInt8) : bits .or .u8 (x.toNat : Int) (y.toNat : Int) = ((x ||| y).toNat : Int) := by
  rw [u8_or_nat _ _ (toNat_lt256 x) (toNat_lt256 y), UInt8.toNat_or]

/-- All bits in which two lists differ anywhere. -/
def gath : List UInt8 → List UInt8 → UInt8
  | a :: as, b :: bs => (a ^^^ b) ||| gath as bs
  | _, _ => 0

theorem gath_snoc : ∀ (as bs : List UInt8) (a b : UInt8), as.length = bs.length → gath (as ++ [a]) (bs ++ [b]) = gath as bs ||| (a ^^^ b)
  | [], [], a, b, _ => by simp [gath]
  | x :: as, y :: bs, a, b, h => by
    simp only [List.cons_append, gath]
    rw [gath_snoc as bs a b (by simpa using h), UInt8.or_assoc]
  | [], _ :: _, _, _, h => by simp at h
  | _ :: _, [], _, _, h => by simp at h

theorem gath_zero : ∀ (as bs : List UInt8), as.length = bs.length → (gath as bs = 0 ↔ as = bs)
  | [], [], _ => by simp [gath]
  | x :: as, y :: bs, h => by
    simp only [gath, UInt8.or_eq_zero_iff, UInt8.xor_eq_zero_iff]
    rw [gath_zero as bs (by simpa using h)]
    simp
  | [], _ :: _, h => by simp at h
  | _ :: _, [], h => by simp at h

/-- Bit by bit. -/
def xorL (as bs : List UInt8) : List UInt8 := List.zipWith (· ^^^ ·) as bs

theorem xorL_length (as bs : List UInt8) (h : as.length = bs.length) : (xorL as bs).length = as.length := by simp [xorL, h]

theorem xorL_self (xs : List UInt8) : xorL xs xs = List.replicate xs.length 0 := by
  simp [xorL, List.map_const']

theorem xorL_back : ∀ (xs ys : List UInt8), xs.length = ys.length → xorL (xorL xs ys) ys = xs
  | [], [], _ => rfl
  | x :: xs, y :: ys, h => by
    have := xorL_back xs ys (by simpa using h)
    simp only [xorL] at this
    simp [xorL, this, UInt8.xor_assoc]
  | [], _ :: _, h => by simp at h
  | _ :: _, [], h => by simp at h

theorem xorL_same (xs ys : List UInt8) (h : xs.length = ys.length) : (xorL xs ys = xorL xs xs) ↔ (xs = ys) := by
  constructor
  · intro e
    have h1 := xorL_back ys xs h.symm
    have h2 : xorL ys xs = xorL xs ys := by simp only [xorL]; rw [List.zipWith_comm]; congr 1; funext a b; exact UInt8.xor_comm _ _
    rw [h2, e, xorL_back xs xs rfl] at h1
    exact h1
  · rintro rfl; rfl

theorem take_snoc {α : Type} (l : List α) (k : Nat) (x : α) (h : l[k]? = some x) : l.take (k + 1) = l.take k ++ [x] := by
  rw [List.take_add_one, h]; rfl

theorem made_bytes (n : Nat) : (madeCells #[Value.int .u8 0] n).toList = (List.replicate n (0 : UInt8)).map cellOf := by
  apply List.ext_getElem
  · simp [madeCells]
  · intro i h1 h2
    simp [madeCells, cellOf, Nat.mod_one]

theorem set_step (l : List UInt8) (n k : Nat) (z : UInt8) (hk : k < n) (hl : l.length = n) (hz : l[k]? = some z) :
    ((l.take k ++ List.replicate (n - k) 0).map cellOf).set k (.int .u8 (z.toNat : Int)) = (l.take (k + 1) ++ List.replicate (n - (k + 1)) 0).map cellOf := by
  have h1 : List.replicate (n - k) (0 : UInt8) = 0 :: List.replicate (n - (k + 1)) 0 := by
    rw [← List.replicate_succ]; congr 1; omega
  rw [h1, take_snoc l k z hz]
  simp only [List.map_append, List.map_cons, List.append_assoc, List.singleton_append]
  rw [List.set_append_right _ _ (by simp; omega)]
  simp [show min k l.length = k by omega, cellOf]

theorem at_step (l : List UInt8) (n k : Nat) (hk : k < n) (hl : l.length = n) :
    ((l.take k ++ List.replicate (n - k) 0).map cellOf)[k]? = some (.int .u8 0) := by
  rw [List.getElem?_map, List.getElem?_append_right (by simp; omega)]
  simp [show min k l.length = k by omega, show 0 < n - k by omega, cellOf]

theorem Sees.drewN {w : World} {a : Option Addr} {cap : Nat} {bs : List UInt8} (h : Sees w a cap bs) (n : Nat) : Sees (w.drewN n) a cap bs :=
  ⟨h.fits, h.room, h.bare, fun hne => by
    obtain ⟨b, off, ha, hc⟩ := h.at' hne
    exact ⟨b, off, ha, fun i x hx => by rw [← hc i x hx]; rfl⟩⟩

/-- An 'append' whose run is known. -/
theorem wpList_append_run {P : Program} {w w' : World} {ops : Array Oper} {rest : List Oper} {o : Oper} {a : Act} {Q : Exit → Act → World → Prop} (hgd : o.guard = none) (s x : Operand) (t : TypeId)
    (ho : o.op = .call { callee := .builtin .append, args := #[s, x], argTypes := #[t, t] }) (v u r : Value) (hs : a.eval s = v) (hx : a.eval x = u)
    (hrun : (Builtin.append_ #[t, t] o.type #[v, u]).run P w = .ok r w') (h : wpList P ops Q rest (a.put o.dst r) w') : wpList P ops Q (o :: rest) a w := by
  refine wpList_plain hgd fun K hK => ?_
  unfold Oper.wp
  simp [execOp, ho, resolve, invoke, builtin, hs, hx, hrun, Result.andThen]
  exact hK _ _ h

/-- An argument that is a slice of bytes: what it reads as, and how long it can be. -/
theorem sees_of_arg {P : Program} {H : Type} {enc : TypeId × Value → H} {W : World} {t e : TypeId} {fuel : Nat} {a : Option Addr} {len cap : Nat} {d : DataW H} {p : List MemPlace} {ts : List TypeId} {ds : List (DataW H)} {j : Nat}
    (ht : P.underlying t = some (.slice e)) (he : P.underlying e = some (.int .u8)) (hc : P.cellsOf e = 1) (hby : P.bytesOf e = 1)
    (hf : DataW.trod enc P W 0 (fun _ => true) true fuel t (Value.slice a len cap).cells.toList = some (d, p))
    (hsz : (DataW.weightsEach P ts ds).all (· ≤ reachBytes) = true) (hj : ts[j]? = some t) (hd : ds[j]? = some d) :
    ∃ bs : List UInt8, len = bs.length ∧ Sees W a cap bs ∧ cap ≤ 140737488351232 := by
  rcases open_ints ht he hc hf with ⟨hcs, _⟩ | ⟨x, l, c, zs, hcs, _, hl, hm, hz, hx, hcell, hwz⟩
  · simp [Value.cells] at hcs
    obtain ⟨rfl, rfl, rfl⟩ := hcs
    exact ⟨[], rfl, Sees.nil' W, by omega⟩
  · simp [Value.cells] at hcs
    obtain ⟨rfl, rfl, rfl⟩ := hcs
    simp only [Prod.mk.injEq] at hx
    obtain ⟨rfl, rfl⟩ := hx
    have hz' : zs.length = cap := by simpa using hz
    have hr : cap ≤ 140737488351232 := by
      have := sized_slice hsz (j := j) (t := t) (e := e) hj hd ht
      rw [hby] at this
      simp only [lits, List.length_map, List.length_take, List.length_drop, reachBytes] at this
      omega
    have hlz : len ≤ zs.length := by omega
    refine ⟨(zs.take len).map fun z => UInt8.ofNat z.toNat, by simp; omega, ⟨by simp; omega, hm, by simp, fun hne => ?_⟩, hr⟩
    have h0 : 0 < len := by
      rcases Nat.eq_zero_or_pos len with h | h
      · subst h; simp at hne
      · exact h
    obtain ⟨b, off, spot⟩ := x
    have hs := World.cell?_spot (hcell 0 (by omega))
    have hspot : spot = none := by simpa [Addr.add] using hs
    subst hspot
    refine ⟨b, off, rfl, fun i y hy => ?_⟩
    have hi : i < len := by
      have := (List.getElem?_eq_some_iff.1 hy).1
      simp at this; omega
    have h1 := hcell i (by omega)
    rw [Addr.add_lit] at h1
    rw [h1]
    have hw := hwz (zs.getD i 0) (by rw [List.getD_eq_getElem?_getD, List.getElem?_eq_getElem (by omega)]; exact List.getElem_mem _)
    have hb := bounds_u8 hw
    have e1 : y = UInt8.ofNat (zs.getD i 0).toNat := by
      simp [hi] at hy
      obtain ⟨q, hq, rfl⟩ := hy
      simp [hq]
    rw [e1]
    congr 2
    rw [UInt8.toNat_ofNat']
    omega

/-- The datum of such an argument: nil, or a slice of as many elements. -/
theorem sees_of_arg_data {P : Program} {H : Type} {enc : TypeId × Value → H} {W : World} {t e : TypeId} {fuel : Nat} {a : Option Addr} {len cap : Nat} {d : DataW H} {p : List MemPlace}
    (ht : P.underlying t = some (.slice e)) (he : P.underlying e = some (.int .u8)) (hc : P.cellsOf e = 1)
    (hf : DataW.trod enc P W 0 (fun _ => true) true fuel t (Value.slice a len cap).cells.toList = some (d, p)) :
    (d = .nil ∧ len = 0) ∨ ∃ el sp, d = .slice el sp ∧ el.length = len := by
  rcases open_ints ht he hc hf with ⟨hcs, hx⟩ | ⟨x, l, c, zs, hcs, _, hl, hm, hz, hx, hcell, hwz⟩
  · simp [Value.cells] at hcs
    simp only [Prod.mk.injEq] at hx
    exact .inl ⟨hx.1, hcs.2.1⟩
  · simp [Value.cells] at hcs
    obtain ⟨rfl, rfl, rfl⟩ := hcs
    simp only [Prod.mk.injEq] at hx
    have hz' : zs.length = cap := by simpa using hz
    exact .inr ⟨_, _, hx.1, by simp [lits]; omega⟩

end Go.Proofs.Ytfifcfdlmpgohaa
