/-
  What the program's forms of a line are: formOf, and the method line of each form, with the very world that they leave. No condition.
-/
import Derived.Test.YteifcogfnpeahaaLine
namespace Go.Proofs.Yteifcogfnpeahaa
open Go.RowKit

set_option maxHeartbeats 1000000 in
theorem formOf_0 (le na se va ta : ByteArray) (w : World) :
    Calls Try.prog 61 #[Ln.agg ⟨0, le, na, se, va, ta⟩] w fun e w' => e = .returned (.iface 108 (.agg #[.string le])) ∧ w' = w.alloc (Ln.box ⟨0, le, na, se, va, ta⟩) := by
  unfold Ln.box
  unfold Ln.agg
  go_enter Try.func61, Try.ntmps61
  go_wp2
  go_ret
  exact ⟨rfl, rfl⟩

/-- the world behind the call of line -/
def lineW_0 (w : World) (le : ByteArray) : World := (w.alloc (.cells #[.string le] 108)).alloc (Ln.box ⟨0, le, ⟨#[]⟩, ⟨#[]⟩, ⟨#[]⟩, ⟨#[]⟩⟩)

set_option maxHeartbeats 1000000 in
theorem line_0 (le : ByteArray) (w : World) :
    Calls Try.prog 165 #[.agg #[.string le]] w fun e w' => e = .returned (Ln.agg ⟨0, le, ⟨#[]⟩, ⟨#[]⟩, ⟨#[]⟩, ⟨#[]⟩⟩) ∧ w' = lineW_0 w le := by
  unfold lineW_0 Ln.box
  unfold Ln.agg
  go_enter Try.func165, Try.ntmps165
  go_wp2
  refine bodyPost_ret (v := .agg #[.int .i64 0, .string le, .string ⟨#[]⟩, .string ⟨#[]⟩, .string ⟨#[]⟩, .string ⟨#[]⟩]) (by simp [results, Try.results165, go_sem]) rfl ⟨rfl, rfl⟩

theorem notNil_0 (v : Value) (w : World) : (binOp .neq 73 (.iface 108 v) .nilIface).run Try.prog w = .ok (.bool true) w := by kernel_rfl
theorem methLine_0 (v : Value) (w : World) : (method 264 108 v "loop.example/settinglayers/impl.line").run Try.prog w = .ok (165, v) w := by kernel_rfl
theorem methValid_0 (v : Value) (w : World) : (method 264 108 v "loop.example/settinglayers/impl.valid").run Try.prog w = .ok (166, v) w := by kernel_rfl

set_option maxHeartbeats 1000000 in
theorem formOf_1 (le na se va ta : ByteArray) (w : World) :
    Calls Try.prog 61 #[Ln.agg ⟨1, le, na, se, va, ta⟩] w fun e w' => e = .returned (.iface 110 (.agg #[.string le, .string va])) ∧ w' = w.alloc (Ln.box ⟨1, le, na, se, va, ta⟩) := by
  unfold Ln.box
  unfold Ln.agg
  go_enter Try.func61, Try.ntmps61
  go_wp2
  go_ret
  exact ⟨rfl, rfl⟩

/-- the world behind the call of line -/
def lineW_1 (w : World) (le va : ByteArray) : World := (w.alloc (.cells #[.string le, .string va] 110)).alloc (Ln.box ⟨1, le, ⟨#[]⟩, ⟨#[]⟩, va, ⟨#[]⟩⟩)

set_option maxHeartbeats 1000000 in
theorem line_1 (le va : ByteArray) (w : World) :
    Calls Try.prog 167 #[.agg #[.string le, .string va]] w fun e w' => e = .returned (Ln.agg ⟨1, le, ⟨#[]⟩, ⟨#[]⟩, va, ⟨#[]⟩⟩) ∧ w' = lineW_1 w le va := by
  unfold lineW_1 Ln.box
  unfold Ln.agg
  go_enter Try.func167, Try.ntmps167
  go_wp2
  refine bodyPost_ret (v := .agg #[.int .i64 1, .string le, .string ⟨#[]⟩, .string ⟨#[]⟩, .string va, .string ⟨#[]⟩]) (by simp [results, Try.results167, go_sem]) rfl ⟨rfl, rfl⟩

theorem notNil_1 (v : Value) (w : World) : (binOp .neq 73 (.iface 110 v) .nilIface).run Try.prog w = .ok (.bool true) w := by kernel_rfl
theorem methLine_1 (v : Value) (w : World) : (method 264 110 v "loop.example/settinglayers/impl.line").run Try.prog w = .ok (167, v) w := by kernel_rfl
theorem methValid_1 (v : Value) (w : World) : (method 264 110 v "loop.example/settinglayers/impl.valid").run Try.prog w = .ok (168, v) w := by kernel_rfl

set_option maxHeartbeats 1000000 in
theorem formOf_2 (le na se va ta : ByteArray) (w : World) :
    Calls Try.prog 61 #[Ln.agg ⟨2, le, na, se, va, ta⟩] w fun e w' => e = .returned (.iface 76 (.agg #[.string le, .string na, .string ta])) ∧ w' = w.alloc (Ln.box ⟨2, le, na, se, va, ta⟩) := by
  unfold Ln.box
  unfold Ln.agg
  go_enter Try.func61, Try.ntmps61
  go_wp2
  go_ret
  exact ⟨rfl, rfl⟩

/-- the world behind the call of line -/
def lineW_2 (w : World) (le na ta : ByteArray) : World := (w.alloc (.cells #[.string le, .string na, .string ta] 76)).alloc (Ln.box ⟨2, le, na, ⟨#[]⟩, ⟨#[]⟩, ta⟩)

set_option maxHeartbeats 1000000 in
theorem line_2 (le na ta : ByteArray) (w : World) :
    Calls Try.prog 87 #[.agg #[.string le, .string na, .string ta]] w fun e w' => e = .returned (Ln.agg ⟨2, le, na, ⟨#[]⟩, ⟨#[]⟩, ta⟩) ∧ w' = lineW_2 w le na ta := by
  unfold lineW_2 Ln.box
  unfold Ln.agg
  go_enter Try.func87, Try.ntmps87
  go_wp2
  refine bodyPost_ret (v := .agg #[.int .i64 2, .string le, .string na, .string ⟨#[]⟩, .string ⟨#[]⟩, .string ta]) (by simp [results, Try.results87, go_sem]) rfl ⟨rfl, rfl⟩

theorem notNil_2 (v : Value) (w : World) : (binOp .neq 73 (.iface 76 v) .nilIface).run Try.prog w = .ok (.bool true) w := by kernel_rfl
theorem methLine_2 (v : Value) (w : World) : (method 264 76 v "loop.example/settinglayers/impl.line").run Try.prog w = .ok (87, v) w := by kernel_rfl
theorem methValid_2 (v : Value) (w : World) : (method 264 76 v "loop.example/settinglayers/impl.valid").run Try.prog w = .ok (133, v) w := by kernel_rfl

set_option maxHeartbeats 1000000 in
theorem formOf_3 (le na se va ta : ByteArray) (w : World) :
    Calls Try.prog 61 #[Ln.agg ⟨3, le, na, se, va, ta⟩] w fun e w' => e = .returned (.iface 79 (.agg #[.string le, .string na, .string se, .string va, .string ta])) ∧ w' = w.alloc (Ln.box ⟨3, le, na, se, va, ta⟩) := by
  unfold Ln.box
  unfold Ln.agg
  go_enter Try.func61, Try.ntmps61
  go_wp2
  go_ret
  exact ⟨rfl, rfl⟩

/-- the world behind the call of line -/
def lineW_3 (w : World) (le na se va ta : ByteArray) : World := (w.alloc (.cells #[.string le, .string na, .string se, .string va, .string ta] 79)).alloc (Ln.box ⟨3, le, na, se, va, ta⟩)

set_option maxHeartbeats 1000000 in
theorem line_3 (le na se va ta : ByteArray) (w : World) :
    Calls Try.prog 88 #[.agg #[.string le, .string na, .string se, .string va, .string ta]] w fun e w' => e = .returned (Ln.agg ⟨3, le, na, se, va, ta⟩) ∧ w' = lineW_3 w le na se va ta := by
  unfold lineW_3 Ln.box
  unfold Ln.agg
  go_enter Try.func88, Try.ntmps88
  go_wp2
  refine bodyPost_ret (v := .agg #[.int .i64 3, .string le, .string na, .string se, .string va, .string ta]) (by simp [results, Try.results88, go_sem]) rfl ⟨rfl, rfl⟩

theorem notNil_3 (v : Value) (w : World) : (binOp .neq 73 (.iface 79 v) .nilIface).run Try.prog w = .ok (.bool true) w := by kernel_rfl
theorem methLine_3 (v : Value) (w : World) : (method 264 79 v "loop.example/settinglayers/impl.line").run Try.prog w = .ok (88, v) w := by kernel_rfl
theorem methValid_3 (v : Value) (w : World) : (method 264 79 v "loop.example/settinglayers/impl.valid").run Try.prog w = .ok (156, v) w := by kernel_rfl

set_option maxHeartbeats 1000000 in
theorem formOf_x (k : Int) (le na se va ta : ByteArray) (w : World) (hk : k < 0 ∨ 3 < k) :
    Calls Try.prog 61 #[Ln.agg ⟨k, le, na, se, va, ta⟩] w fun e w' => e = .returned .nilIface ∧ w' = w.alloc (Ln.box ⟨k, le, na, se, va, ta⟩) := by
  have k0 : (k == 0) = false := by rw [beq_eq_false_iff_ne]; omega
  have k1 : (k == 1) = false := by rw [beq_eq_false_iff_ne]; omega
  have k2 : (k == 2) = false := by rw [beq_eq_false_iff_ne]; omega
  have k3 : (k == 3) = false := by rw [beq_eq_false_iff_ne]; omega
  clear hk
  unfold Ln.box
  unfold Ln.agg
  go_enter Try.func61, Try.ntmps61
  go_wp2
  go_ret
  exact ⟨rfl, rfl⟩
theorem nilNil (w : World) : (binOp .neq 73 .nilIface .nilIface).run Try.prog w = .ok (.bool false) w := by kernel_rfl
end Go.Proofs.Yteifcogfnpeahaa
