/-
  An argument that is a list of lists of bytes. No contract here.
  An argument that is a list of lists of bytes: what it reads as, and how long each can be.
  The contract of same; a buffer beside a list of bytes.
-/
import Derived.Test.YtmffplhaclnehaaGreatDoorRows
import Derived.Test.YtmffplhaclnehaaGreatDoorGround
import Derived.Deep.DrawnRows
import Derived.Test.YtmffplhaclnehaaGreatDoorBufR
namespace Go.Proofs.YtmffplhaclnehaaGreatDoor
open Go.ChangeShapes Go.WideShapes Go.ChangeAt Go.RowKit
set_option maxRecDepth 20000

theorem rowss_of_arg {H : Type} {enc : TypeId × Value → H} {W : World} {fuel : Nat} {a : Option Addr} {len cap : Nat} {d : DataW H} {p : List MemPlace}
    (hf : DataW.trod enc Tryz.prog W 0 (fun _ => true) true fuel 26 (Value.slice a len cap).cells.toList = some (d, p)) :
    ∃ L : List (List UInt8), len = L.length ∧ Rowss W a cap L ∧ True := by
  rcases Deep.open_int_rows Tryz.underlying26 Tryz.underlying24 Tryz.underlying5 (by kernel_rfl) (by kernel_rfl) hf with ⟨hcs, _⟩ | ⟨ad, l, c, A, Ln, C, Z, hcs, _, hl, hm, _, hrow⟩
  · simp [Value.cells] at hcs
    obtain ⟨rfl, rfl, rfl⟩ := hcs
    exact ⟨[], rfl, ⟨by simp, by simp, fun r bs h => by simp at h⟩, trivial⟩
  · simp [Value.cells] at hcs
    obtain ⟨rfl, rfl, rfl⟩ := hcs
    refine ⟨(List.range len).map fun r => ((Z r).take (Ln r)).map fun z => UInt8.ofNat z.toNat, by simp, ⟨by simpa using hl, hm, fun r bs hr => ?_⟩, trivial⟩
    have hrl : r < len := by have := (List.getElem?_eq_some_iff.1 hr).1; simpa using this
    have hbs : bs = ((Z r).take (Ln r)).map fun z => UInt8.ofNat z.toNat := by
      simp [hrl] at hr; rw [← hr, List.map_take]
    obtain ⟨hc, h1, h2, h3, h4, h5, h6⟩ := hrow r (by omega)
    obtain ⟨b, off, spot⟩ := ad
    have hspot : spot = none := by
      have := World.cell?_spot (hrow 0 (by omega)).1
      simpa [Addr.add] using this
    subst hspot
    rw [Addr.add_lit] at hc
    have hbl : bs.length = Ln r := by rw [hbs]; simp; omega
    refine ⟨b, off, rfl, A r, C r, by rw [hbl]; exact hc, ⟨by omega, h2, h5, fun hne => ?_⟩⟩
    have h0 : 0 < Ln r := by rw [← hbl]; exact List.length_pos_iff.2 hne
    cases hA : A r with
    | none => have := h5 hA; omega
    | some a' =>
      obtain ⟨_, hcc⟩ := h6 a' hA
      obtain ⟨b2, o2, sp2⟩ := a'
      have hsp2 : sp2 = none := by
        have := World.cell?_spot (hcc 0 (by omega))
        simpa [Addr.add] using this
      subst hsp2
      refine ⟨b2, o2, rfl, fun i y hy => ?_⟩
      have hi : i < Ln r := by rw [← hbl]; exact (List.getElem?_eq_some_iff.1 hy).1
      have hci := hcc i (by omega)
      rw [Addr.add_lit] at hci
      rw [hci]
      have hb := bounds_u8 (h4 ((Z r).getD i 0) (by rw [List.getD_eq_getElem?_getD, List.getElem?_eq_getElem (by omega)]; exact List.getElem_mem _))
      have e1 : y = UInt8.ofNat ((Z r).getD i 0).toNat := by
        rw [hbs] at hy
        simp [hi] at hy
        obtain ⟨q, hq, rfl⟩ := hy
        simp [hq]
      rw [e1]
      congr 2
      rw [UInt8.toNat_ofNat']
      omega
end Go.Proofs.YtmffplhaclnehaaGreatDoor

namespace Go.Proofs.YtmffplhaclnehaaGreatDoor
open Go.ChangeShapes Go.WideShapes Go.ChangeAt Go.RowKit
set_option maxRecDepth 20000

theorem weights_mem_all {H : Type} {P : Program} {e : TypeId} : ∀ {l : List (DataW H)} {d : DataW H}, d ∈ l → ∀ n ∈ d.weights P e, n ∈ DataW.weightsAll P e l
  | x :: l, d, h, n, hn => by
    simp only [DataW.weightsAll, List.mem_append]
    rcases List.mem_cons.1 h with rfl | h
    · exact .inl hn
    · exact .inr (weights_mem_all h n hn)
  | [], _, h, _, _ => by simp at h

theorem rowss_sized {H : Type} {enc : TypeId × Value → H} {W : World} {fuel : Nat} {a : Option Addr} {len cap : Nat} {d : DataW H} {p : List MemPlace}
    (hf : DataW.trod enc Tryz.prog W 0 (fun _ => true) true fuel 26 (Value.slice a len cap).cells.toList = some (d, p)) {ts : List TypeId} {ds : List (DataW H)} {j : Nat}
    (hsz : (DataW.weightsEach Tryz.prog ts ds).all (· ≤ reachBytes) = true) (hj : ts[j]? = some 26) (hd : ds[j]? = some d) :
    ∃ L : List (List UInt8), len = L.length ∧ Rowss W a cap L ∧ ∀ l ∈ L, l.length ≤ 140737488351232 := by
  rcases Deep.open_int_rows Tryz.underlying26 Tryz.underlying24 Tryz.underlying5 (by kernel_rfl) (by kernel_rfl) hf with ⟨hcs, _⟩ | ⟨ad, l, c, A, Ln, C, Z, hcs, _, hl, hm, hdx, hrow⟩
  · simp [Value.cells] at hcs
    obtain ⟨rfl, rfl, rfl⟩ := hcs
    exact ⟨[], rfl, ⟨by simp, by simp, fun r bs h => by simp at h⟩, by simp⟩
  · simp [Value.cells] at hcs
    obtain ⟨rfl, rfl, rfl⟩ := hcs
    refine ⟨(List.range len).map fun r => ((Z r).take (Ln r)).map fun z => UInt8.ofNat z.toNat, by simp, ⟨by simpa using hl, hm, fun r bs hr => ?_⟩, fun l hlm => ?_⟩
    rotate_left
    · obtain ⟨r, hr, rfl⟩ := List.mem_map.1 hlm
      rw [List.mem_range] at hr
      obtain ⟨_, h1, _, h3, _, h5, _⟩ := hrow r (by omega)
      simp only [Prod.mk.injEq] at hdx
      have hle : (((Z r).take (Ln r)).map fun z => UInt8.ofNat z.toNat).length ≤ (Z r).length := by simp; omega
      refine Nat.le_trans hle ?_
      cases hA : A r with
      | none => have := h5 hA; omega
      | some a' =>
        have hmem : (Deep.intRow .u8 (A r) (Ln r) (Z r) : DataW H) ∈ ((List.range len).map fun r => Deep.intRow .u8 (A r) (Ln r) (Z r)) := List.mem_map.2 ⟨r, List.mem_range.2 hr, rfl⟩
        have hwt : (Z r).length ∈ (Deep.intRow .u8 (A r) (Ln r) (Z r) : DataW H).weights Tryz.prog 24 := by
          simp only [Deep.intRow, hA, DataW.weights, Tryz.underlying24]
          refine List.mem_cons.2 (.inl ?_)
          rw [show Tryz.prog.bytesOf 5 = 1 by kernel_rfl]
          simp [lits]; omega
        have h9 : (Z r).length ∈ d.weights Tryz.prog 26 := by
          rw [hdx.1]
          simp only [DataW.weights, Tryz.underlying26]
          exact List.mem_cons.2 (.inr (List.mem_append.2 (.inl (weights_mem_all hmem _ hwt))))
        have := List.all_eq_true.1 hsz _ (DataW.weights_mem_each hj hd _ h9)
        exact of_decide_eq_true this
    have hrl : r < len := by have := (List.getElem?_eq_some_iff.1 hr).1; simpa using this
    have hbs : bs = ((Z r).take (Ln r)).map fun z => UInt8.ofNat z.toNat := by
      simp [hrl] at hr; rw [← hr, List.map_take]
    obtain ⟨hc, h1, h2, h3, h4, h5, h6⟩ := hrow r (by omega)
    obtain ⟨b, off, spot⟩ := ad
    have hspot : spot = none := by
      have := World.cell?_spot (hrow 0 (by omega)).1
      simpa [Addr.add] using this
    subst hspot
    rw [Addr.add_lit] at hc
    have hbl : bs.length = Ln r := by rw [hbs]; simp; omega
    refine ⟨b, off, rfl, A r, C r, by rw [hbl]; exact hc, ⟨by omega, h2, h5, fun hne => ?_⟩⟩
    have h0 : 0 < Ln r := by rw [← hbl]; exact List.length_pos_iff.2 hne
    cases hA : A r with
    | none => have := h5 hA; omega
    | some a' =>
      obtain ⟨_, hcc⟩ := h6 a' hA
      obtain ⟨b2, o2, sp2⟩ := a'
      have hsp2 : sp2 = none := by
        have := World.cell?_spot (hcc 0 (by omega))
        simpa [Addr.add] using this
      subst hsp2
      refine ⟨b2, o2, rfl, fun i y hy => ?_⟩
      have hi : i < Ln r := by rw [← hbl]; exact (List.getElem?_eq_some_iff.1 hy).1
      have hci := hcc i (by omega)
      rw [Addr.add_lit] at hci
      rw [hci]
      have hb := bounds_u8 (h4 ((Z r).getD i 0) (by rw [List.getD_eq_getElem?_getD, List.getElem?_eq_getElem (by omega)]; exact List.getElem_mem _))
      have e1 : y = UInt8.ofNat ((Z r).getD i 0).toNat := by
        rw [hbs] at hy
        simp [hi] at hy
        obtain ⟨q, hq, rfl⟩ := hy
        simp [hq]
      rw [e1]
      congr 2
      rw [UInt8.toNat_ofNat']
      omega
end Go.Proofs.YtmffplhaclnehaaGreatDoor

namespace Go.Proofs.YtmffplhaclnehaaGreatDoor
open Go.ChangeShapes Go.WideShapes Go.ChangeAt Go.RowKit
set_option maxRecDepth 20000

/-- The slice v reads as the lists of bytes L. -/
def Lst (w : World) (v : Value) (L : List (List UInt8)) : Prop := ∃ os, Row E22 w v os ∧ SeenB w os ∧ os.map Prod.fst = L
theorem SeenB.below {w w' : World} {os : List Bl} (h : SeenB w os) (hb : Below w.heap.size w w') : SeenB w' os := fun x hx => (h x hx).below hb
theorem SeenB.apart {w w' : World} {F : Nat → Prop} {os : List Bl} (h : SeenB w os) (ha : Apart F w w') (hp : ∀ k, F k → Plain w k) : SeenB w' os := fun x hx => (h x hx).apart ha hp
theorem Lst.below {w w' : World} {v : Value} {L : List (List UInt8)} (h : Lst w v L) (hb : Below w.heap.size w w') : Lst w' v L := by
  obtain ⟨os, h1, h2, h3⟩ := h
  exact ⟨os, h1.below hb, h2.below hb, h3⟩
theorem BTold.lst {w : World} {B : Nat} {v : Value} {L : List (List UInt8)} (h : BTold w B v L) : Lst w v L := by
  obtain ⟨os, h1, h2, h3, _⟩ := h
  exact ⟨os, h1, h2, h3⟩
theorem Lst.shape {w : World} {v : Value} {L : List (List UInt8)} (h : Lst w v L) : ∃ a c, v = .slice a L.length c ∧ L.length ≤ c ∧ c ≤ maxLen := by
  obtain ⟨os, h1, _, h3⟩ := h
  obtain ⟨a, c, rfl, h4, h5, _⟩ := h1.shape
  have e : os.length = L.length := by have := congrArg List.length h3; simpa using this
  rw [e] at h4 ⊢
  exact ⟨a, c, rfl, h4, h5⟩
/-- One of them. -/
theorem Lst.get {w : World} {a : Option Addr} {len c : Nat} {L : List (List UInt8)} (h : Lst w (.slice a len c) L) {t : Nat} {l : List UInt8} (hl : L[t]? = some l) :
    ∃ q oa oc, a = some ⟨q, 0, none⟩ ∧ w.cell? ⟨q, t, none⟩ = some (.slice oa l.length oc) ∧ Sees w oa oc l := by
  obtain ⟨os, h1, h2, rfl⟩ := h
  rw [List.getElem?_map] at hl
  obtain ⟨o, ho, rfl⟩ := Option.map_eq_some_iff.1 hl
  obtain ⟨-, q, rfl, hcell⟩ := h1.get ho
  have x0 := hcell 0 _ rfl
  rw [show E22.n = 1 from rfl, Nat.mul_one, Nat.add_zero] at x0
  exact ⟨q, o.2.1, o.2.2, rfl, x0, h2 o (List.mem_of_getElem? ho)⟩
theorem Row.take {α : Type} {E : Enc α} {w : World} {a : Option Addr} {len cap : Nat} {xs : List α} (h : Row E w (.slice a len cap) xs) {k : Nat} (hk : k ≤ xs.length) : Row E w (.slice a k cap) (xs.take k) := by
  rcases h with ⟨e, rfl⟩ | ⟨q, cap', cur, e, h1, h2, h3, h4, h5, h6⟩
  · cases e
    have : k = 0 := by simpa using hk
    subst this
    exact .inl ⟨rfl, rfl⟩
  · cases e
    have hl : (xs.take k).length = k := by rw [List.length_take, Nat.min_eq_left hk]
    refine .inr ⟨q, cap, cur, by rw [hl], h1, by rw [hl]; omega, h3, h4, ?_, h6⟩
    rw [hl, ← E.cs_take xs k hk, ← h5, List.take_take, Nat.min_eq_left (Nat.mul_le_mul_right _ hk)]
theorem Lst.take {w : World} {a : Option Addr} {len c : Nat} {L : List (List UInt8)} (h : Lst w (.slice a len c) L) {k : Nat} (hk : k ≤ L.length) : Lst w (.slice a k c) (L.take k) := by
  obtain ⟨os, h1, h2, rfl⟩ := h
  rw [List.length_map] at hk
  exact ⟨os.take k, h1.take hk, fun x hx => h2 x (List.mem_of_mem_take hx), by rw [List.map_take]⟩

/-- A buffer, and a list of bytes of the law's own beside it. -/
structure Beside (w0 w : World) (g : Nat) (s : Bs) (n : Nat) (vw : Value) (ws : List Bl) (m : Nat) (v : Value) (ss : List BSl) : Prop where
  pb : Pb w g m v s ss n
  bel : Below w0.heap.size w0 w
  own : ∀ k, Own g m v k → w0.heap.size ≤ k
  row : Row E22 w vw ws
  seen : SeenB w ws
  new : ∀ k, vw.ownBlock = some k → w0.heap.size ≤ k
  apart : ∀ k, vw.ownBlock = some k → ¬ Own g m v k
theorem Beside.left {w0 w w' : World} {g : Nat} {s s' : Bs} {n n' : Nat} {vw : Value} {ws : List Bl} {m : Nat} {v : Value} {ss : List BSl} (h : Beside w0 w g s n vw ws m v ss) (hl : PLeft w g m v s' n' w') : ∃ v' ss', Beside w0 w' g s' n' vw ws m v' ss' := by
  obtain ⟨v', ss', h1, h2, h3⟩ := hl
  refine ⟨v', ss', h1, h2.below h.bel h.own h.bel.size, fun k hk => ?_, h.row.apart h2 h.apart, h.seen.apart h2 fun k hk => h.pb.plain hk, h.new, fun k hk ho => ?_⟩
  · rcases hk with rfl | rfl | hk
    · exact h.own _ (.inl rfl)
    · exact h.own _ (.inr (.inl rfl))
    · rcases h3 k hk with h4 | h4
      · exact h.own k (.inr (.inr h4))
      · exact Nat.le_trans h.bel.size h4
  · have hlt := h.row.lt hk
    rcases ho with rfl | rfl | ho
    · exact h.apart _ hk (.inl rfl)
    · exact h.apart _ hk (.inr (.inl rfl))
    · rcases h3 k ho with h4 | h4
      · exact h.apart k hk (.inr (.inr h4))
      · omega
theorem Beside.below {w0 w w' : World} {g : Nat} {s : Bs} {n : Nat} {vw : Value} {ws : List Bl} {m : Nat} {v : Value} {ss : List BSl} (h : Beside w0 w g s n vw ws m v ss) (hb : Below w.heap.size w w') : Beside w0 w' g s n vw ws m v ss :=
  ⟨h.pb.below hb, h.bel.trans (hb.mono h.bel.size), h.own, h.row.below hb, h.seen.below hb, h.new, h.apart⟩
theorem Beside.mono {w0 w : World} {g : Nat} {s : Bs} {n n' : Nat} {vw : Value} {ws : List Bl} {m : Nat} {v : Value} {ss : List BSl} (h : Beside w0 w g s n vw ws m v ss) (hn : n ≤ n') : Beside w0 w g s n' vw ws m v ss :=
  ⟨h.pb.mono hn, h.bel, h.own, h.row, h.seen, h.new, h.apart⟩
/-- The list grows. -/
theorem Beside.more {w0 w w' : World} {g : Nat} {s : Bs} {n : Nat} {vw vw' : Value} {ws ws' : List Bl} {m : Nat} {v : Value} {ss : List BSl} (h : Beside w0 w g s n vw ws m v ss) (hr : Row E22 w' vw' ws') (hs : SeenB w ws') (ha : Apart (fun k => vw.ownBlock = some k) w w') (hn : ∀ k, vw'.ownBlock = some k → vw.ownBlock = some k ∨ w.heap.size ≤ k) : Beside w0 w' g s n vw' ws' m v ss := by
  refine ⟨h.pb.apart ha h.apart (fun k hk => h.row.plain hk), ha.below h.bel h.new h.bel.size, h.own, hr, hs.apart ha fun k hk => h.row.plain hk, fun k hk => ?_, fun k hk ho => ?_⟩
  · rcases hn k hk with e | e
    · exact h.new k e
    · exact Nat.le_trans h.bel.size e
  · rcases hn k hk with e | e
    · exact h.apart k e ho
    · have := h.pb.lt ho; omega
end Go.Proofs.YtmffplhaclnehaaGreatDoor
