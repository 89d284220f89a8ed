/-
  The contract of the document's Unhex, and the walk of WordDigits.
-/
import Derived.Test.YtmldfljgngkneaaDoorTurn
import Derived.Test.YtmldfljgngkneaaDoorRefHexA
namespace Go.Proofs.YtmldfljgngkneaaDoor
open Go.ChangeShapes Go.WideShapes Go.ChangeAt Go.RowKit

/-- As 'part', but a last digit that is alone stands as the high one. -/
def rpart : List UInt8 → List UInt8
  | [] => []
  | [d] => [d * 16]
  | d :: e :: r => (d * 16 + e) :: rpart r

theorem rpart_length : ∀ l : List UInt8, (rpart l).length = (l.length + 1) / 2
  | [] => rfl
  | [d] => by simp [rpart]
  | d :: e :: r => by have := rpart_length r; simp only [rpart, List.length_cons]; omega

theorem rpart_even : ∀ (l : List UInt8) (d : UInt8), l.length % 2 = 0 → rpart (l ++ [d]) = rpart l ++ [d * 16]
  | [], d, _ => rfl
  | [x], d, h => by simp at h
  | x :: y :: r, d, h => by
    have := rpart_even r d (by simp only [List.length_cons] at h; omega)
    simp only [List.cons_append, rpart, this]

theorem rpart_odd : ∀ (l : List UInt8) (e d : UInt8), l.length % 2 = 0 → rpart (l ++ [e, d]) = rpart l ++ [e * 16 + d]
  | [], e, d, _ => rfl
  | [x], e, d, h => by simp at h
  | x :: y :: r, e, d, h => by
    have := rpart_odd r e d (by simp only [List.length_cons] at h; omega)
    simp only [List.cons_append, rpart, this]

theorem rpart_part : ∀ l : List UInt8, l.length % 2 = 0 → rpart l = part l
  | [], _ => rfl
  | [x], h => by simp at h
  | x :: y :: r, h => by
    have := rpart_part r (by simp only [List.length_cons] at h; omega)
    simp only [rpart, part, this]

theorem mul16 (v : UInt8) (h : v.toNat < 16) : (16 : Int) * (v.toNat : Int) = ((v * 16).toNat : Int) := by
  rw [UInt8.toNat_mul]
  simp only [UInt8.reduceToNat]
  omega

theorem add16 (e v : UInt8) (hv : v.toNat < 16) : ((e * 16).toNat : Int) + (v.toNat : Int) = ((e * 16 + v).toNat : Int) ∧ (e * 16).toNat + v.toNat < 256 := by
  rw [UInt8.toNat_add, UInt8.toNat_mul]
  simp only [UInt8.reduceToNat]
  omega

set_option maxHeartbeats 1600000 in
theorem refunhex_any (w : World) (s : ByteArray) (cs : List UInt8) (hcs : s.data.toList = cs) (hr : s.size ≤ 4194304) :
    Calls Tryd.prog 5 #[.string s] w fun e w' => ∃ a n ca m f, e = .returned (.tuple #[.slice a n ca, .int .i64 (m : Nat), .int .i64 (f : Nat)]) ∧ UnhexSaid w' cs a n ca m f ∧ Below w.heap.size w w' := by
  obtain ⟨i5, hi, hz0, hz1, hz2⟩ := info_parts Tryd.info5
  have Hlen : Hid (cs.length = s.size) := by rw [← hcs]; exact rfl
  have HC : Hid (s.data.toList = cs) := hcs
  clear hcs
  go_enter Tryd.func5, Tryd.ntmps5
  go_wp2
  go_loopw [5, 6] (fun v i wr => ∃ k : Nat, k ≤ s.size ∧ i = .int .i64 k ∧ Hid (∀ x ∈ cs.take k, isD x = true) ∧ wr.ownsRow w.heap.size 5 1 v ((k + 1) / 2) ((rpart ((cs.take k).map valD)).map cellOf) ∧ Below w.heap.size w wr)
    (fun _ i _ => s.size - (intOf i).toNat)
  case atStart => exact ⟨0, Nat.zero_le _, rfl, by simp [Hid], by simpa [rpart] using World.ownsRow_nil w w.heap.size 5 1, Below.refl _ _⟩
  case round =>
    obtain ⟨k, hk, rfl, Hd, ho, hbl⟩ := hrel
    have hsz := hbl.size
    by_cases hlt : k < s.size
    · obtain ⟨c, hc⟩ : ∃ c, s[k] = c := ⟨_, rfl⟩
      have hck : cs[k]? = some c := by
        rw [← HC.out, ← hc, Array.getElem?_toList]
        exact ByteArray.getElem?_lt' s k hlt
      have hlk : (cs.take k).length = k := by have := Hlen.out; simp; omega
      cases hdc : isD c with
      | false =>
        have HB : Hid (badAt cs = k) := badAt_at cs k c hck hdc Hd.out
        have HD : Hid (isD c = false) := hdc
        clear hck hdc hlk
        go_wp2_with fail
        refine (digit_no _ c HD.out).mono ?_
        rintro e w' ⟨rfl, rfl⟩
        go_wp2
        go_ret3
        refine ⟨none, 0, 0, k, 4, rfl, ⟨HB.out.symm, fun _ => ⟨rfl, rfl, rfl, rfl⟩, fun h => ?_, fun h => ?_⟩, hbl⟩
        · have := Hlen.out; omega
        · have := Hlen.out; omega
      | true =>
        have HD : Hid (isD c = true) := hdc
        have hvl := valD_lt c hdc
        have HDn : Hid (∀ x ∈ cs.take (k + 1), isD x = true) := by
          rw [take_snoc cs k c hck]
          intro x hx
          rcases List.mem_append.1 hx with h | h
          · exact Hd.out x h
          · rw [List.mem_singleton.1 h]; exact HD.out
        obtain ⟨v, hv⟩ : ∃ v, v = valD c := ⟨_, rfl⟩
        rw [← hv] at hvl
        have HV : Hid (v = valD c) := hv
        rcases Nat.mod_two_eq_zero_or_one k with hev | hod
        · have HS : Hid ((rpart ((cs.take (k + 1)).map valD)).map cellOf = (rpart ((cs.take k).map valD)).map cellOf ++ [.int .u8 ((v * 16).toNat : Int)]) := by
            rw [take_snoc cs k c hck, List.map_append, List.map_cons, List.map_nil, rpart_even _ _ (by rw [List.length_map, hlk]; exact hev), List.map_append, hv]; exact rfl
          obtain ⟨z, hz⟩ : ∃ z, z = v * 16 := ⟨_, rfl⟩
          have e16 : (16 : Int) * (v.toNat : Int) = (z.toNat : Int) := by rw [hz]; exact mul16 v hvl
          have hz256 := toNat_lt256 z
          have ek : ((k : Int) % 2 == 0) = true := by simp; omega
          rw [← hz] at HS
          clear hck hdc hv hz hlk Hd
          go_wp2_with fail
          refine (digit_yes _ c HD.out).mono ?_
          rintro e w' ⟨rfl, rfl⟩
          rw [← HV.out]
          go_wp2_with (at_builtin; refine wpList_append_lies _ rfl _ _ 22 rfl w.heap.size 5 i5 (.int .u8 0) 1 1 Tryd.underlying22 hi hz0 hz1 hz2 rfl (by omega) u5 ((k + 1) / 2) _ rfl (ho.alloc _) ⟨w'.heap.size, 0, none⟩ 1 1 [.int .u8 (z.toNat : Int)] rfl rfl ?f1 ?f2 (by omega) ?f3 ?f4 ?f5 (w'.heap.size + 1) (by simp) ?_)
          case f1 => exact World.news_of_block (heap_alloc_new w' _)
          case f2 => simp [Value.oneCell']
          case f3 => unfold maxLen; omega
          case f4 => omega
          case f5 => simp; omega
          intro gg cap w3 hown1 hgrow hat hlt'
          have hbl' : Below w.heap.size w w3 := (hbl.alloc hsz _).grown hgrow (by simp; omega) (fun q h => (ho.lt _ h).1)
          go_wp2
          go_roundw
          case rel =>
            refine ⟨k + 1, by omega, by go_num, HDn, ?_, hbl'⟩
            rw [HS.out, show (k + 1 + 1) / 2 = (k + 1) / 2 + 1 from by omega]
            rw [List.map_take]
            exact hown1
          case measure => simp [intOf]; omega
        · obtain ⟨h, rfl⟩ : ∃ h, k = h + 1 := ⟨k - 1, by omega⟩
          obtain ⟨e', hce⟩ : ∃ e', cs[h]? = some e' := ⟨cs[h]'(by have := Hlen.out; omega), by simp [show h < cs.length by have := Hlen.out; omega]⟩
          have hed : isD e' = true := Hd.out e' (by rw [take_snoc cs h e' hce]; simp)
          obtain ⟨d, hd⟩ : ∃ d, d = valD e' := ⟨_, rfl⟩
          have hdl := valD_lt e' hed
          rw [← hd] at hdl
          have hlh : (cs.take h).length = h := by have := Hlen.out; simp; omega
          have hevh : ((cs.take h).map valD).length % 2 = 0 := by rw [List.length_map, hlh]; omega
          have e1 : rpart ((cs.take (h + 1)).map valD) = rpart ((cs.take h).map valD) ++ [d * 16] := by
            rw [take_snoc cs h e' hce, List.map_append, hd]; exact rpart_even _ _ hevh
          have e2 : rpart ((cs.take (h + 1 + 1)).map valD) = rpart ((cs.take h).map valD) ++ [d * 16 + v] := by
            rw [take_snoc cs (h + 1) c hck, take_snoc cs h e' hce, List.append_assoc, List.map_append, hd, hv]; exact rpart_odd _ _ _ hevh
          have hPl : (rpart ((cs.take h).map valD)).length = (h + 1) / 2 := by rw [rpart_length, List.length_map, hlh]
          obtain ⟨g, cp, hval, hgB, hgl⟩ := ho.form (by omega)
          rw [hval] at ho
          rw [e1] at ho
          obtain ⟨n, hn⟩ : ∃ n, n = (h + 1) / 2 := ⟨_, rfl⟩
          have hnn : (h + 1 + 1) / 2 = n + 1 := by omega
          have hnb : n ≤ 4194304 := by omega
          rw [hnn] at ho hval
          obtain ⟨x, hx⟩ : ∃ x, x = d * 16 := ⟨_, rfl⟩
          obtain ⟨y, hy⟩ : ∃ y, y = d * 16 + v := ⟨_, rfl⟩
          have hadd := add16 d v hvl
          rw [← hy, ← hx] at hadd
          have hc3 : wr.cell? ⟨g, n, none⟩ = some (.int .u8 x.toNat) := by
            rw [ho.cellAt n (by omega), List.getElem?_map, List.getElem?_append_right (by omega), hPl, ← hn, Nat.sub_self, hx]; rfl
          have hf3 : wr.frozen? ⟨g, n, none⟩ = false := ho.frozenAt n
          obtain ⟨ho', hg'⟩ := ho.stored n (.int .u8 (y.toNat : Int))
          have ho4 : Hid ((wr.setCell ⟨g, n, none⟩ (.int .u8 (y.toNat : Int))).ownsRow w.heap.size 5 1 (.slice (some ⟨g, 0, none⟩) (n + 1) cp) (n + 1) ((rpart ((cs.take (h + 1 + 1)).map valD)).map cellOf)) := by
            have hset : ((rpart ((cs.take h).map valD) ++ [d * 16]).map cellOf).set n (.int .u8 (y.toNat : Int)) = (rpart ((cs.take (h + 1 + 1)).map valD)).map cellOf := by
              rw [e2, ← hy, show Value.int .u8 (y.toNat : Int) = cellOf y from rfl, ← List.map_set, set_mid _ _ _ _ n (by rw [hPl, hn])]
            rw [hset] at ho'
            exact ho'
          have hbl' := hbl.setCell (p := ⟨g, n, none⟩) hgB (.int .u8 (y.toNat : Int))
          have ek : (((h : Int) + 1) % 2 == 0) = false := by simp; omega
          have eadd : (x.toNat : Int) + (v.toNat : Int) = (y.toNat : Int) := hadd.1
          have hxv : x.toNat + v.toNat < 256 := hadd.2
          have Hnn : Hid ((h + 1 + 1 + 1) / 2 = n + 1) := by show (h + 1 + 1 + 1) / 2 = n + 1; omega
          clear hck hdc hv hlk Hd hce hed hd hlh hevh e1 e2 hPl ho ho' hg' hn hnn hx hy hadd
          rw [hval]
          clear hval
          go_wp2_with fail
          refine (digit_yes _ c HD.out).mono ?_
          rintro e w' ⟨rfl, rfl⟩
          rw [← HV.out]
          go_wp2
          go_roundw
          case rel => exact ⟨h + 1 + 1, by omega, by go_num, HDn, by rw [Hnn.out]; exact ho4.out, hbl'⟩
          case measure => simp [intOf]; omega
    · obtain rfl : k = s.size := by omega
      have Hda : Hid (∀ x ∈ cs, isD x = true) := by
        have := Hd.out; rw [← Hlen.out, List.take_length] at this; exact this
      have HB : Hid (badAt cs = cs.length) := badAt_none cs Hda.out
      rcases Nat.mod_two_eq_zero_or_one s.size with hev | hod
      · have hs := ho
        rw [← Hlen.out, List.take_length, rpart_part _ (by rw [List.length_map, Hlen.out]; exact hev)] at hs
        obtain ⟨c, cc, hv, hse⟩ := Sees.of_own hs
        obtain ⟨P, hP⟩ : ∃ P, P = (part (cs.map valD)).length := ⟨_, rfl⟩
        have HP : Hid (P = (part (cs.map valD)).length) := hP
        rw [← hP] at hv
        rw [hv]
        clear hv hs ho hP
        have e2 : ((s.size : Int) % 2 == 1) = false := by simp; omega
        go_wp2
        go_ret3
        refine ⟨c, P, cc, s.size, 0, rfl, ⟨by rw [HB.out, Hlen.out], fun h => ?_, fun _ h => ?_, fun _ _ => ⟨rfl, HP.out, hse⟩⟩, hbl⟩
        · have := Hlen.out; omega
        · have := Hlen.out; omega
      · have e2 : ((s.size : Int) % 2 == 1) = true := by simp; omega
        go_wp2
        go_ret3
        refine ⟨none, 0, 0, s.size, 4, rfl, ⟨by rw [HB.out, Hlen.out], fun h => ?_, fun _ _ => ⟨rfl, rfl, rfl, rfl⟩, fun _ h => ?_⟩, hbl⟩
        · have := Hlen.out; omega
        · have := Hlen.out; omega
end Go.Proofs.YtmldfljgngkneaaDoor
