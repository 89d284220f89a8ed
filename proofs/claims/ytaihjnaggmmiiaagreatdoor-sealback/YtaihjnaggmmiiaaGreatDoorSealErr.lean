/-
  Refusals: what errors.Is, refuse and number tell of them.
-/
import Derived.Test.YtaihjnaggmmiiaaGreatDoorGround
import Derived.Stop.Asserts
import Derived.Lib.IfaceEq
import Derived.Lib.SmallJoins
import Derived.LaidEql
namespace Go.Proofs.YtaihjnaggmmiiaaGreatDoor
open Go.ChangeShapes Go.WideShapes Go.ChangeAt Go.RowKit Go.Extern.Stop Go.Stop Go.Extern

theorem is_typeOf (v : Value) (w : World) : (callFunc 63 #[.iface 26 v]).run Tryz.prog w = .ok (.value (.iface 138 (.agg #[.pointer (some ⟨2, 26, none⟩)]))) w := by kernel_rfl
theorem is_comparable (w : World) : (callFunc 173 #[.agg #[.pointer (some ⟨2, 26, none⟩)]]).run Tryz.prog w = .ok (.value (.bool true)) w := by kernel_rfl
theorem is_method (v : Value) (w : World) : (Go.method 339 138 v "Comparable").run Tryz.prog w = .ok (173, v) w := by kernel_rfl
theorem is_comp : (Tryz.prog.info? 26).map (·.comparable) = some true := by kernel_rfl
theorem ref_noIs (v : Value) (xT : TypeId) (w : World) : (Instr.typeAssert (.iface 97 v) xT 140 true).run Tryz.prog w = .ok (.tuple #[.nilIface, .bool false]) w := run_typeAssert_lacksB Tryz.underlying140 (by kernel_rfl) (by kernel_rfl) v xT w
theorem ref_unwraps (v : Value) (xT : TypeId) (w : World) : (Instr.typeAssert (.iface 97 v) xT 143 true).run Tryz.prog w = .ok (.tuple #[.iface 97 v, .bool true]) w := run_typeAssert_hasB Tryz.underlying143 (by kernel_rfl) v xT w
theorem num_noIs (v : Value) (xT : TypeId) (w : World) : (Instr.typeAssert (.iface 26 v) xT 140 true).run Tryz.prog w = .ok (.tuple #[.nilIface, .bool false]) w := run_typeAssert_lacksB Tryz.underlying140 (by kernel_rfl) (by kernel_rfl) v xT w
theorem num_noUnwrap (v : Value) (xT : TypeId) (w : World) : (Instr.typeAssert (.iface 26 v) xT 143 true).run Tryz.prog w = .ok (.tuple #[.nilIface, .bool false]) w := run_typeAssert_lacksB Tryz.underlying143 (by kernel_rfl) (by kernel_rfl) v xT w
theorem num_noUnwraps (v : Value) (xT : TypeId) (w : World) : (Instr.typeAssert (.iface 26 v) xT 145 true).run Tryz.prog w = .ok (.tuple #[.nilIface, .bool false]) w := run_typeAssert_lacksB Tryz.underlying145 (by kernel_rfl) (by kernel_rfl) v xT w
theorem ref_method (v : Value) (w : World) : (Go.method 339 97 v "Unwrap").run Tryz.prog w = .ok (169, v) w := by kernel_rfl

set_option maxRecDepth 20000 in
set_option maxHeartbeats 1600000 in
theorem is_yes (s : ByteArray) (n : Int) (w : World) :
    Calls Tryz.prog 40 #[.iface 97 (.agg #[.string s, .int .i64 n]), .iface 26 (.int .i64 n)] w fun e w' => e = .returned (.bool true) ∧ Below w.heap.size w w' := by
  have tT := is_typeOf
  have cT := is_comparable
  have mR := is_method
  have nE := ref_noIs
  have uW := ref_unwraps
  have mU := ref_method
  have hty : ∀ W : World, _ := fun W => run_eql_iface_types (P := Tryz.prog) 97 26 (.agg #[.string s, .int .i64 n]) (.int .i64 n) Tryz.underlying42 (by decide) W
  have heq : ∀ W : World, (binOp .eql 42 (.iface 26 (.int .i64 n)) (.iface 26 (.int .i64 n))).run Tryz.prog W = .ok (.bool true) W := fun W => by
    have := Lib.run_eql_iface_int (P := Tryz.prog) W (k := .i64) n n Tryz.underlying42 is_comp Tryz.underlying26
    simpa using this
  go_enter Tryz.func40, Tryz.ntmps40
  go_wp2
  refine wp_loop_rounds 2 ?_
  rw [rounds_succ]
  go_wp2
  rw [rounds_succ]
  go_wp2
  go_ret
  exact ⟨rfl, Go.Joins.below_alloc1 _ _⟩

set_option maxRecDepth 20000 in
set_option maxHeartbeats 1600000 in
theorem is_no (s : ByteArray) (n m : Int) (hne : (n == m) = false) (w : World) :
    Calls Tryz.prog 40 #[.iface 97 (.agg #[.string s, .int .i64 n]), .iface 26 (.int .i64 m)] w fun e w' => e = .returned (.bool false) ∧ Below w.heap.size w w' := by
  have tT := is_typeOf
  have cT := is_comparable
  have mR := is_method
  have nE := ref_noIs
  have uW := ref_unwraps
  have mU := ref_method
  have n1 := num_noIs
  have n2 := num_noUnwrap
  have n3 := num_noUnwraps
  have hty : ∀ W : World, _ := fun W => run_eql_iface_types (P := Tryz.prog) 97 26 (.agg #[.string s, .int .i64 n]) (.int .i64 m) Tryz.underlying42 (by decide) W
  have heq : ∀ W : World, (binOp .eql 42 (.iface 26 (.int .i64 n)) (.iface 26 (.int .i64 m))).run Tryz.prog W = .ok (.bool false) W := fun W => by
    have := Lib.run_eql_iface_int (P := Tryz.prog) W (k := .i64) n m Tryz.underlying42 is_comp Tryz.underlying26
    rw [hne] at this
    exact this
  clear hne
  go_enter Tryz.func40, Tryz.ntmps40
  go_wp2
  refine wp_loop_rounds 2 ?_
  rw [rounds_succ]
  go_wp2
  rw [rounds_succ]
  go_wp2
  go_ret
  exact ⟨rfl, Go.Joins.below_alloc1 _ _⟩

/-- A refusal that wraps a number. -/
def refV (s : ByteArray) (n : Int) : Value := .iface 97 (.agg #[.string s, .int .i64 n])

theorem refuse_none (s : ByteArray) (w : World) : Calls Tryz.prog 37 #[.string s, .int .i64 0] w fun e w' => e = .returned .nilIface ∧ w' = w := by
  go_enter Tryz.func37, Tryz.ntmps37
  go_wp2
  go_ret
  exact ⟨rfl, rfl⟩
set_option maxRecDepth 20000 in
theorem refuse_some (s : ByteArray) (n : Int) (hn : (n == 0) = false) (w : World) : Calls Tryz.prog 37 #[.string s, .int .i64 n] w fun e w' => e = .returned (refV s n) ∧ w' = w := by
  have HB : Hid ((Instr.build 97 #[(0, .string s), (1, .int .i64 n)]).run Tryz.prog w = .ok (.agg #[.string s, .int .i64 n]) w) := run_build w 97 _ _ (by kernel_rfl)
  go_enter Tryz.func37, Tryz.ntmps37
  go_wp2_with (first | (refine wpList_build_run rfl 97 _ rfl [(0, .string s), (1, .int .i64 n)] _ rfl HB.out ?_) | fail)
  go_ret
  exact ⟨rfl, rfl⟩

theorem number_none (w : World) : Calls Tryz.prog 20 #[.nilIface] w fun e w' => e = .returned (.int .i64 0) ∧ w' = w := by
  go_enter Tryz.func20, Tryz.ntmps20
  go_wp2
  go_ret
  exact ⟨rfl, rfl⟩

set_option maxRecDepth 20000 in
set_option maxHeartbeats 1600000 in
theorem number_some (s : ByteArray) (n : Nat) (h1 : 1 ≤ n) (h13 : n ≤ 13) (w : World) : Calls Tryz.prog 20 #[refV s (n : Int)] w fun e w' => e = .returned (.int .i64 (n : Int)) ∧ Below w.heap.size w w' := by
  unfold refV
  go_enter Tryz.func20, Tryz.ntmps20
  go_wp2
  go_loopw [3] (fun i wr => ∃ k : Nat, 1 ≤ k ∧ k ≤ n ∧ i = .int .i64 (k : Int) ∧ Below w.heap.size w wr) (fun i _ => 13 - (intOf i).toNat)
  case atStart => exact ⟨1, Nat.le_refl _, h1, rfl, Below.refl _ _⟩
  case round =>
    obtain ⟨k, hk1, hkn, rfl, hbel⟩ := hrel
    by_cases hlt : k < 13
    · by_cases hkk : k = n
      · subst hkk
        have hc := is_yes s (k : Int) wr
        have HB : Hid (Below w.heap.size w wr) := hbel
        clear hbel
        go_wp2_with fail
        refine hc.mono ?_
        rintro e w1 ⟨rfl, hb1⟩
        have HE : Hid (Below w.heap.size w w1) := HB.out.trans (hb1.mono HB.out.size)
        clear hc hb1 HB
        go_wp2
        go_ret
        exact ⟨rfl, HE.out⟩
      · have hc := is_no s (n : Int) (k : Int) (by simp; omega) wr
        have HB : Hid (Below w.heap.size w wr) := hbel
        have HK : Hid (k + 1 ≤ n) := (by omega : k + 1 ≤ n)
        clear hbel
        go_wp2_with fail
        refine hc.mono ?_
        rintro e w1 ⟨rfl, hb1⟩
        have HE : Hid (Below w.heap.size w w1) := HB.out.trans (hb1.mono HB.out.size)
        clear hc hb1 HB
        go_wp2
        go_roundw
        case rel => exact ⟨k + 1, by omega, HK.out, by first | go_num | (congr 1; omega), HE.out⟩
        case measure => simp [intOf]; omega
    · obtain rfl : k = 13 := by omega
      obtain rfl : n = 13 := by omega
      have HB : Hid (Below w.heap.size w wr) := hbel
      clear hbel
      go_wp2
      go_ret
      exact ⟨rfl, HB.out⟩

end Go.Proofs.YtaihjnaggmmiiaaGreatDoor
