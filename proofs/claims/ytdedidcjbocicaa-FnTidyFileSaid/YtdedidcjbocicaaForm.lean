/-
  What the program's forms of a line are: formOf, and the method line of each form, with the very world that they leave. No condition.
-/
import Derived.Test.YtdedidcjbocicaaLine
namespace Go.Proofs.Ytdedidcjbocicaa
open Go.RowKit

set_option maxHeartbeats 1000000 in
theorem formOf_0 (le na se va ta : ByteArray) (w : World) :
    Calls Try.prog 42 #[Ln.agg ⟨0, le, na, se, va, ta⟩] w fun e w' => e = .returned (.iface 78 (.agg #[.string le])) ∧ w' = w.alloc (Ln.box ⟨0, le, na, se, va, ta⟩) := by
  unfold Ln.box
  unfold Ln.agg
  go_enter Try.func42, Try.ntmps42
  go_wp2
  go_ret
  exact ⟨rfl, rfl⟩

/-- the world behind the call of line -/
def lineW_0 (w : World) (le : ByteArray) : World := (w.alloc (.cells #[.string le] 78)).alloc (Ln.box ⟨0, le, ⟨#[]⟩, ⟨#[]⟩, ⟨#[]⟩, ⟨#[]⟩⟩)

set_option maxHeartbeats 1000000 in
theorem line_0 (le : ByteArray) (w : World) :
    Calls Try.prog 118 #[.agg #[.string le]] w fun e w' => e = .returned (Ln.agg ⟨0, le, ⟨#[]⟩, ⟨#[]⟩, ⟨#[]⟩, ⟨#[]⟩⟩) ∧ w' = lineW_0 w le := by
  unfold lineW_0 Ln.box
  unfold Ln.agg
  go_enter Try.func118, Try.ntmps118
  go_wp2
  refine bodyPost_ret (v := .agg #[.int .i64 0, .string le, .string ⟨#[]⟩, .string ⟨#[]⟩, .string ⟨#[]⟩, .string ⟨#[]⟩]) (by simp [results, Try.results118, go_sem]) rfl ⟨rfl, rfl⟩

theorem notNil_0 (v : Value) (w : World) : (binOp .neq 64 (.iface 78 v) .nilIface).run Try.prog w = .ok (.bool true) w := by kernel_rfl
theorem methLine_0 (v : Value) (w : World) : (method 227 78 v "loop.example/settinglayers/impl.line").run Try.prog w = .ok (118, v) w := by kernel_rfl
theorem methValid_0 (v : Value) (w : World) : (method 227 78 v "loop.example/settinglayers/impl.valid").run Try.prog w = .ok (119, v) w := by kernel_rfl

set_option maxHeartbeats 1000000 in
theorem formOf_1 (le na se va ta : ByteArray) (w : World) :
    Calls Try.prog 42 #[Ln.agg ⟨1, le, na, se, va, ta⟩] w fun e w' => e = .returned (.iface 60 (.agg #[.string le, .string va])) ∧ w' = w.alloc (Ln.box ⟨1, le, na, se, va, ta⟩) := by
  unfold Ln.box
  unfold Ln.agg
  go_enter Try.func42, Try.ntmps42
  go_wp2
  go_ret
  exact ⟨rfl, rfl⟩

/-- the world behind the call of line -/
def lineW_1 (w : World) (le va : ByteArray) : World := (w.alloc (.cells #[.string le, .string va] 60)).alloc (Ln.box ⟨1, le, ⟨#[]⟩, ⟨#[]⟩, va, ⟨#[]⟩⟩)

set_option maxHeartbeats 1000000 in
theorem line_1 (le va : ByteArray) (w : World) :
    Calls Try.prog 33 #[.agg #[.string le, .string va]] w fun e w' => e = .returned (Ln.agg ⟨1, le, ⟨#[]⟩, ⟨#[]⟩, va, ⟨#[]⟩⟩) ∧ w' = lineW_1 w le va := by
  unfold lineW_1 Ln.box
  unfold Ln.agg
  go_enter Try.func33, Try.ntmps33
  go_wp2
  refine bodyPost_ret (v := .agg #[.int .i64 1, .string le, .string ⟨#[]⟩, .string ⟨#[]⟩, .string va, .string ⟨#[]⟩]) (by simp [results, Try.results33, go_sem]) rfl ⟨rfl, rfl⟩

theorem notNil_1 (v : Value) (w : World) : (binOp .neq 64 (.iface 60 v) .nilIface).run Try.prog w = .ok (.bool true) w := by kernel_rfl
theorem methLine_1 (v : Value) (w : World) : (method 227 60 v "loop.example/settinglayers/impl.line").run Try.prog w = .ok (33, v) w := by kernel_rfl
theorem methValid_1 (v : Value) (w : World) : (method 227 60 v "loop.example/settinglayers/impl.valid").run Try.prog w = .ok (115, v) w := by kernel_rfl

set_option maxHeartbeats 1000000 in
theorem formOf_2 (le na se va ta : ByteArray) (w : World) :
    Calls Try.prog 42 #[Ln.agg ⟨2, le, na, se, va, ta⟩] w fun e w' => e = .returned (.iface 46 (.agg #[.string le, .string na, .string ta])) ∧ w' = w.alloc (Ln.box ⟨2, le, na, se, va, ta⟩) := by
  unfold Ln.box
  unfold Ln.agg
  go_enter Try.func42, Try.ntmps42
  go_wp2
  go_ret
  exact ⟨rfl, rfl⟩

/-- the world behind the call of line -/
def lineW_2 (w : World) (le na ta : ByteArray) : World := (w.alloc (.cells #[.string le, .string na, .string ta] 46)).alloc (Ln.box ⟨2, le, na, ⟨#[]⟩, ⟨#[]⟩, ta⟩)

set_option maxHeartbeats 1000000 in
theorem line_2 (le na ta : ByteArray) (w : World) :
    Calls Try.prog 24 #[.agg #[.string le, .string na, .string ta]] w fun e w' => e = .returned (Ln.agg ⟨2, le, na, ⟨#[]⟩, ⟨#[]⟩, ta⟩) ∧ w' = lineW_2 w le na ta := by
  unfold lineW_2 Ln.box
  unfold Ln.agg
  go_enter Try.func24, Try.ntmps24
  go_wp2
  refine bodyPost_ret (v := .agg #[.int .i64 2, .string le, .string na, .string ⟨#[]⟩, .string ⟨#[]⟩, .string ta]) (by simp [results, Try.results24, go_sem]) rfl ⟨rfl, rfl⟩

theorem notNil_2 (v : Value) (w : World) : (binOp .neq 64 (.iface 46 v) .nilIface).run Try.prog w = .ok (.bool true) w := by kernel_rfl
theorem methLine_2 (v : Value) (w : World) : (method 227 46 v "loop.example/settinglayers/impl.line").run Try.prog w = .ok (24, v) w := by kernel_rfl
theorem methValid_2 (v : Value) (w : World) : (method 227 46 v "loop.example/settinglayers/impl.valid").run Try.prog w = .ok (82, v) w := by kernel_rfl

set_option maxHeartbeats 1000000 in
theorem formOf_3 (le na se va ta : ByteArray) (w : World) :
    Calls Try.prog 42 #[Ln.agg ⟨3, le, na, se, va, ta⟩] w fun e w' => e = .returned (.iface 52 (.agg #[.string le, .string na, .string se, .string va, .string ta])) ∧ w' = w.alloc (Ln.box ⟨3, le, na, se, va, ta⟩) := by
  unfold Ln.box
  unfold Ln.agg
  go_enter Try.func42, Try.ntmps42
  go_wp2
  go_ret
  exact ⟨rfl, rfl⟩

/-- the world behind the call of line -/
def lineW_3 (w : World) (le na se va ta : ByteArray) : World := (w.alloc (.cells #[.string le, .string na, .string se, .string va, .string ta] 52)).alloc (Ln.box ⟨3, le, na, se, va, ta⟩)

set_option maxHeartbeats 1000000 in
theorem line_3 (le na se va ta : ByteArray) (w : World) :
    Calls Try.prog 27 #[.agg #[.string le, .string na, .string se, .string va, .string ta]] w fun e w' => e = .returned (Ln.agg ⟨3, le, na, se, va, ta⟩) ∧ w' = lineW_3 w le na se va ta := by
  unfold lineW_3 Ln.box
  unfold Ln.agg
  go_enter Try.func27, Try.ntmps27
  go_wp2
  refine bodyPost_ret (v := .agg #[.int .i64 3, .string le, .string na, .string se, .string va, .string ta]) (by simp [results, Try.results27, go_sem]) rfl ⟨rfl, rfl⟩

theorem notNil_3 (v : Value) (w : World) : (binOp .neq 64 (.iface 52 v) .nilIface).run Try.prog w = .ok (.bool true) w := by kernel_rfl
theorem methLine_3 (v : Value) (w : World) : (method 227 52 v "loop.example/settinglayers/impl.line").run Try.prog w = .ok (27, v) w := by kernel_rfl
theorem methValid_3 (v : Value) (w : World) : (method 227 52 v "loop.example/settinglayers/impl.valid").run Try.prog w = .ok (106, v) w := by kernel_rfl

set_option maxHeartbeats 1000000 in
theorem formOf_x (k : Int) (le na se va ta : ByteArray) (w : World) (hk : k < 0 ∨ 3 < k) :
    Calls Try.prog 42 #[Ln.agg ⟨k, le, na, se, va, ta⟩] w fun e w' => e = .returned .nilIface ∧ w' = w.alloc (Ln.box ⟨k, le, na, se, va, ta⟩) := by
  have k0 : (k == 0) = false := by rw [beq_eq_false_iff_ne]; omega
  have k1 : (k == 1) = false := by rw [beq_eq_false_iff_ne]; omega
  have k2 : (k == 2) = false := by rw [beq_eq_false_iff_ne]; omega
  have k3 : (k == 3) = false := by rw [beq_eq_false_iff_ne]; omega
  clear hk
  unfold Ln.box
  unfold Ln.agg
  go_enter Try.func42, Try.ntmps42
  go_wp2
  go_ret
  exact ⟨rfl, rfl⟩
theorem nilNil (w : World) : (binOp .neq 64 .nilIface .nilIface).run Try.prog w = .ok (.bool false) w := by kernel_rfl
end Go.Proofs.Ytdedidcjbocicaa
