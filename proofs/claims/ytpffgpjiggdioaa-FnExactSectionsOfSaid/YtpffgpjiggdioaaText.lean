/-
  The texts of lines and files, of the specification and of the program. Conditions: at most 1048576 bytes in all.
-/
import Derived.Test.YtpffgpjiggdioaaFile
import Derived.Test.YtpffgpjiggdioaaHelp
namespace Go.Proofs.Ytpffgpjiggdioaa
open Go.RowKit

/-- the text of a line -/
def ltext (l : Ln) : ByteArray := if l.k = 2 then l.le ++ ⟨#[91]⟩ ++ l.na ++ ⟨#[93]⟩ ++ l.ta else l.le ++ l.na ++ l.se ++ l.va ++ l.ta
theorem ltext_2 {l : Ln} (h : l.k = 2) : ltext l = l.le ++ ⟨#[91]⟩ ++ l.na ++ ⟨#[93]⟩ ++ l.ta := by rw [ltext, if_pos h]
theorem ltext_x {l : Ln} (h : ¬ l.k = 2) : ltext l = l.le ++ l.na ++ l.se ++ l.va ++ l.ta := by rw [ltext, if_neg h]
theorem ltext_size (l : Ln) : (ltext l).size ≤ l.size + 2 := by
  have h1 : (⟨#[91]⟩ : ByteArray).size = 1 := rfl
  have h2 : (⟨#[93]⟩ : ByteArray).size = 1 := rfl
  have hl : l.size = l.le.size + l.na.size + l.se.size + l.va.size + l.ta.size := rfl
  unfold ltext
  split <;> simp only [ByteArray.size_append, h1, h2] <;> omega

set_option maxHeartbeats 1000000 in
theorem specLineText_any (l : Ln) (w : World) (hs : l.size ≤ 1048576) :
    Calls Try.prog 71 #[l.agg] w fun e w' => e = .returned (.string (ltext l)) ∧ Grows w w' := by
  have hl : l.size = l.le.size + l.na.size + l.se.size + l.va.size + l.ta.size := rfl
  have s1 : l.le.size ≤ 1048576 := by omega
  have s2 : l.na.size ≤ 1048576 := by omega
  have s3 : l.se.size ≤ 1048576 := by omega
  have s4 : l.va.size ≤ 1048576 := by omega
  have s5 : l.ta.size ≤ 1048576 := by omega
  clear hl hs
  by_cases h2 : l.k = 2
  · have HV := Lib.hid (ltext_2 h2)
    have hB : (l.k == 2) = true := by rw [beq_iff_eq]; exact h2
    clear h2
    unfold Ln.agg
    go_enter Try.func71, Try.ntmps71
    go_wp2
    go_ret
    exact ⟨ret_str HV.out.symm, (Grows.refl _).alloc _⟩
  · have HV := Lib.hid (ltext_x h2)
    have hB : (l.k == 2) = false := by rw [beq_eq_false_iff_ne]; exact h2
    clear h2
    unfold Ln.agg
    go_enter Try.func71, Try.ntmps71
    go_wp2
    go_ret
    exact ⟨ret_str HV.out.symm, (Grows.refl _).alloc _⟩

theorem nul_eq {s : ByteArray} (h : nul s = true) : s = ⟨#[]⟩ := by
  unfold nul at h
  rw [Lib.toList_data] at h
  obtain ⟨⟨d⟩⟩ := s
  have : d = [] := by simpa using h
  rw [this]

theorem ap_nil (s : ByteArray) : s ++ (⟨#[]⟩ : ByteArray) = s := by
  obtain ⟨d⟩ := s
  apply ByteArray.ext
  rw [ByteArray.data_append]
  simp
theorem ap_assoc (a b c : ByteArray) : a ++ b ++ c = a ++ (b ++ c) := by
  apply ByteArray.ext
  simp only [ByteArray.data_append, Array.append_assoc]

theorem ta_0_0 (v : Value) (w : World) : (Instr.typeAssert (.iface 84 v) 59 84 true).run Try.prog w = .ok (.tuple #[v, .bool true]) w := by kernel_rfl
theorem ta_0_1 (v : Value) (w : World) : (Instr.typeAssert (.iface 84 v) 59 86 true).run Try.prog w = .ok (.tuple #[.agg #[.string ⟨#[]⟩, .string ⟨#[]⟩], .bool false]) w := by kernel_rfl
theorem ta_0_2 (v : Value) (w : World) : (Instr.typeAssert (.iface 84 v) 59 62 true).run Try.prog w = .ok (.tuple #[.agg #[.string ⟨#[]⟩, .string ⟨#[]⟩, .string ⟨#[]⟩], .bool false]) w := by kernel_rfl
theorem ta_0_3 (v : Value) (w : World) : (Instr.typeAssert (.iface 84 v) 59 64 true).run Try.prog w = .ok (.tuple #[.agg #[.string ⟨#[]⟩, .string ⟨#[]⟩, .string ⟨#[]⟩, .string ⟨#[]⟩, .string ⟨#[]⟩], .bool false]) w := by kernel_rfl
theorem ta_1_0 (v : Value) (w : World) : (Instr.typeAssert (.iface 86 v) 59 84 true).run Try.prog w = .ok (.tuple #[.agg #[.string ⟨#[]⟩], .bool false]) w := by kernel_rfl
theorem ta_1_1 (v : Value) (w : World) : (Instr.typeAssert (.iface 86 v) 59 86 true).run Try.prog w = .ok (.tuple #[v, .bool true]) w := by kernel_rfl
theorem ta_1_2 (v : Value) (w : World) : (Instr.typeAssert (.iface 86 v) 59 62 true).run Try.prog w = .ok (.tuple #[.agg #[.string ⟨#[]⟩, .string ⟨#[]⟩, .string ⟨#[]⟩], .bool false]) w := by kernel_rfl
theorem ta_1_3 (v : Value) (w : World) : (Instr.typeAssert (.iface 86 v) 59 64 true).run Try.prog w = .ok (.tuple #[.agg #[.string ⟨#[]⟩, .string ⟨#[]⟩, .string ⟨#[]⟩, .string ⟨#[]⟩, .string ⟨#[]⟩], .bool false]) w := by kernel_rfl
theorem ta_2_0 (v : Value) (w : World) : (Instr.typeAssert (.iface 62 v) 59 84 true).run Try.prog w = .ok (.tuple #[.agg #[.string ⟨#[]⟩], .bool false]) w := by kernel_rfl
theorem ta_2_1 (v : Value) (w : World) : (Instr.typeAssert (.iface 62 v) 59 86 true).run Try.prog w = .ok (.tuple #[.agg #[.string ⟨#[]⟩, .string ⟨#[]⟩], .bool false]) w := by kernel_rfl
theorem ta_2_2 (v : Value) (w : World) : (Instr.typeAssert (.iface 62 v) 59 62 true).run Try.prog w = .ok (.tuple #[v, .bool true]) w := by kernel_rfl
theorem ta_2_3 (v : Value) (w : World) : (Instr.typeAssert (.iface 62 v) 59 64 true).run Try.prog w = .ok (.tuple #[.agg #[.string ⟨#[]⟩, .string ⟨#[]⟩, .string ⟨#[]⟩, .string ⟨#[]⟩, .string ⟨#[]⟩], .bool false]) w := by kernel_rfl
theorem ta_3_0 (v : Value) (w : World) : (Instr.typeAssert (.iface 64 v) 59 84 true).run Try.prog w = .ok (.tuple #[.agg #[.string ⟨#[]⟩], .bool false]) w := by kernel_rfl
theorem ta_3_1 (v : Value) (w : World) : (Instr.typeAssert (.iface 64 v) 59 86 true).run Try.prog w = .ok (.tuple #[.agg #[.string ⟨#[]⟩, .string ⟨#[]⟩], .bool false]) w := by kernel_rfl
theorem ta_3_2 (v : Value) (w : World) : (Instr.typeAssert (.iface 64 v) 59 62 true).run Try.prog w = .ok (.tuple #[.agg #[.string ⟨#[]⟩, .string ⟨#[]⟩, .string ⟨#[]⟩], .bool false]) w := by kernel_rfl
theorem ta_3_3 (v : Value) (w : World) : (Instr.typeAssert (.iface 64 v) 59 64 true).run Try.prog w = .ok (.tuple #[v, .bool true]) w := by kernel_rfl

set_option maxRecDepth 100000 in
set_option maxHeartbeats 1000000 in
theorem implLineText_0 (le : ByteArray) (w : World)  :
    Calls Try.prog 48 #[Ln.agg ⟨0, le, ⟨#[]⟩, ⟨#[]⟩, ⟨#[]⟩, ⟨#[]⟩⟩] w fun e w' => e = .returned (.string (ltext ⟨0, le, ⟨#[]⟩, ⟨#[]⟩, ⟨#[]⟩, ⟨#[]⟩⟩)) ∧ Grows w w' := by
  have HC := Lib.hid (fun w => formOf_0 le ⟨#[]⟩ ⟨#[]⟩ ⟨#[]⟩ ⟨#[]⟩ w)
  have HV : Hid (ltext ⟨0, le, ⟨#[]⟩, ⟨#[]⟩, ⟨#[]⟩, ⟨#[]⟩⟩ = le) := by
    unfold Hid
    rw [ltext_x (by simp)]
    simp only [ap_nil]
  have t0 := ta_0_0 (.agg #[.string le])
  unfold Ln.agg Ln.box at HC
  unfold Ln.agg
  go_enter Try.func48, Try.ntmps48
  go_wp2_with (go_at_call 51; refine (HC.out _).mono ?_; rintro e w' ⟨rfl, rfl⟩)
  go_ret
  exact ⟨ret_str HV.out.symm, (((Grows.refl _).alloc _).alloc _).alloc _⟩

set_option maxRecDepth 100000 in
set_option maxHeartbeats 1000000 in
theorem implLineText_1 (le va : ByteArray) (w : World) (hle : le.size ≤ 1048576) (hva : va.size ≤ 1048576) :
    Calls Try.prog 48 #[Ln.agg ⟨1, le, ⟨#[]⟩, ⟨#[]⟩, va, ⟨#[]⟩⟩] w fun e w' => e = .returned (.string (ltext ⟨1, le, ⟨#[]⟩, ⟨#[]⟩, va, ⟨#[]⟩⟩)) ∧ Grows w w' := by
  have HC := Lib.hid (fun w => formOf_1 le ⟨#[]⟩ ⟨#[]⟩ va ⟨#[]⟩ w)
  have HV : Hid (ltext ⟨1, le, ⟨#[]⟩, ⟨#[]⟩, va, ⟨#[]⟩⟩ = le ++ va) := by
    unfold Hid
    rw [ltext_x (by simp)]
    simp only [ap_nil]
  have t0 := ta_1_0 (.agg #[.string le, .string va])
  have t1 := ta_1_1 (.agg #[.string le, .string va])
  unfold Ln.agg Ln.box at HC
  unfold Ln.agg
  go_enter Try.func48, Try.ntmps48
  go_wp2_with (go_at_call 51; refine (HC.out _).mono ?_; rintro e w' ⟨rfl, rfl⟩)
  go_ret
  exact ⟨ret_str HV.out.symm, (((Grows.refl _).alloc _).alloc _).alloc _⟩

set_option maxRecDepth 100000 in
set_option maxHeartbeats 1000000 in
theorem implLineText_2 (le na ta : ByteArray) (w : World) (hle : le.size ≤ 1048576) (hna : na.size ≤ 1048576) (hta : ta.size ≤ 1048576) :
    Calls Try.prog 48 #[Ln.agg ⟨2, le, na, ⟨#[]⟩, ⟨#[]⟩, ta⟩] w fun e w' => e = .returned (.string (ltext ⟨2, le, na, ⟨#[]⟩, ⟨#[]⟩, ta⟩)) ∧ Grows w w' := by
  have HC := Lib.hid (fun w => formOf_2 le na ⟨#[]⟩ ⟨#[]⟩ ta w)
  have HV : Hid (ltext ⟨2, le, na, ⟨#[]⟩, ⟨#[]⟩, ta⟩ = le ++ ⟨#[91]⟩ ++ na ++ ⟨#[93]⟩ ++ ta) := by
    unfold Hid
    exact ltext_2 rfl
  have t0 := ta_2_0 (.agg #[.string le, .string na, .string ta])
  have t1 := ta_2_1 (.agg #[.string le, .string na, .string ta])
  have t2 := ta_2_2 (.agg #[.string le, .string na, .string ta])
  unfold Ln.agg Ln.box at HC
  unfold Ln.agg
  go_enter Try.func48, Try.ntmps48
  go_wp2_with (go_at_call 51; refine (HC.out _).mono ?_; rintro e w' ⟨rfl, rfl⟩)
  go_ret
  exact ⟨ret_str HV.out.symm, (((Grows.refl _).alloc _).alloc _).alloc _⟩

set_option maxRecDepth 100000 in
set_option maxHeartbeats 1000000 in
theorem implLineText_3 (le na se va ta : ByteArray) (w : World) (hle : le.size ≤ 1048576) (hna : na.size ≤ 1048576) (hse : se.size ≤ 1048576) (hva : va.size ≤ 1048576) (hta : ta.size ≤ 1048576) :
    Calls Try.prog 48 #[Ln.agg ⟨3, le, na, se, va, ta⟩] w fun e w' => e = .returned (.string (ltext ⟨3, le, na, se, va, ta⟩)) ∧ Grows w w' := by
  have HC := Lib.hid (fun w => formOf_3 le na se va ta w)
  have HV : Hid (ltext ⟨3, le, na, se, va, ta⟩ = le ++ na ++ se ++ va ++ ta) := by
    unfold Hid
    rw [ltext_x (by simp)]
  have t0 := ta_3_0 (.agg #[.string le, .string na, .string se, .string va, .string ta])
  have t1 := ta_3_1 (.agg #[.string le, .string na, .string se, .string va, .string ta])
  have t2 := ta_3_2 (.agg #[.string le, .string na, .string se, .string va, .string ta])
  have t3 := ta_3_3 (.agg #[.string le, .string na, .string se, .string va, .string ta])
  unfold Ln.agg Ln.box at HC
  unfold Ln.agg
  go_enter Try.func48, Try.ntmps48
  go_wp2_with (go_at_call 51; refine (HC.out _).mono ?_; rintro e w' ⟨rfl, rfl⟩)
  go_ret
  exact ⟨ret_str HV.out.symm, (((Grows.refl _).alloc _).alloc _).alloc _⟩

theorem vline_0 {le na se va ta : ByteArray} (h : vline ⟨0, le, na, se, va, ta⟩ = true) : na = ⟨#[]⟩ ∧ se = ⟨#[]⟩ ∧ va = ⟨#[]⟩ ∧ ta = ⟨#[]⟩ := by
  have h : (vspaces le && (nul na && (nul se && (nul va && nul ta)))) = true := h
  simp only [Bool.and_eq_true] at h
  exact ⟨nul_eq h.2.1, nul_eq h.2.2.1, nul_eq h.2.2.2.1, nul_eq h.2.2.2.2⟩
theorem vline_1 {le na se va ta : ByteArray} (h : vline ⟨1, le, na, se, va, ta⟩ = true) : na = ⟨#[]⟩ ∧ se = ⟨#[]⟩ ∧ ta = ⟨#[]⟩ := by
  have h : (vspaces le && (nul na && (nul se && (nul ta && vnote va)))) = true := h
  simp only [Bool.and_eq_true] at h
  exact ⟨nul_eq h.2.1, nul_eq h.2.2.1, nul_eq h.2.2.2.1⟩
theorem vline_2 {le na se va ta : ByteArray} (h : vline ⟨2, le, na, se, va, ta⟩ = true) : se = ⟨#[]⟩ ∧ va = ⟨#[]⟩ := by
  have h : (vspaces le && (vname na && (nul se && (nul va && vspaces ta)))) = true := h
  simp only [Bool.and_eq_true] at h
  exact ⟨nul_eq h.2.2.1, nul_eq h.2.2.2.1⟩
theorem vline_k {l : Ln} (h : vline l = true) : l.k = 0 ∨ l.k = 1 ∨ l.k = 2 ∨ l.k = 3 := by
  by_cases k0 : l.k = 0
  · exact .inl k0
  by_cases k1 : l.k = 1
  · exact .inr (.inl k1)
  by_cases k2 : l.k = 2
  · exact .inr (.inr (.inl k2))
  by_cases k3 : l.k = 3
  · exact .inr (.inr (.inr k3))
  · unfold vline at h
    rw [if_neg k0, if_neg k1, if_neg k2, if_neg k3, Bool.and_false] at h
    cases h

theorem implLineText_any (l : Ln) (w : World) (hv : vline l = true) (hs : l.size ≤ 1048576) :
    Calls Try.prog 48 #[l.agg] w fun e w' => e = .returned (.string (ltext l)) ∧ Grows w w' := by
  have hl : l.size = l.le.size + l.na.size + l.se.size + l.va.size + l.ta.size := rfl
  have s1 : l.le.size ≤ 1048576 := by omega
  have s2 : l.na.size ≤ 1048576 := by omega
  have s3 : l.se.size ≤ 1048576 := by omega
  have s4 : l.va.size ≤ 1048576 := by omega
  have s5 : l.ta.size ≤ 1048576 := by omega
  have hk := vline_k hv
  obtain ⟨k, le, na, se, va, ta⟩ := l
  rcases hk with rfl | rfl | rfl | rfl
  · obtain ⟨rfl, rfl, rfl, rfl⟩ := vline_0 hv
    exact implLineText_0 le w
  · obtain ⟨rfl, rfl, rfl⟩ := vline_1 hv
    exact implLineText_1 le va w s1 s4
  · obtain ⟨rfl, rfl⟩ := vline_2 hv
    exact implLineText_2 le na ta w s1 s2 s5
  · exact implLineText_3 le na se va ta w s1 s2 s3 s4 s5

/-- the text of the first k lines -/
def ftext (ls : List Ln) (k : Nat) : ByteArray := (ls.take k).foldl (fun t l => t ++ (ltext l ++ ⟨#[10]⟩)) ⟨#[]⟩
theorem ftext_succ {ls : List Ln} {k : Nat} (hk : k < ls.length) : ftext ls (k + 1) = ftext ls k ++ (ltext ls[k] ++ ⟨#[10]⟩) := by
  unfold ftext
  rw [List.take_succ_eq_append_getElem hk, List.foldl_append]
  rfl
theorem ftext_size {ls : List Ln} {k : Nat} (hk : k ≤ ls.length) : (ftext ls k).size ≤ wsum ls k + 3 * k := by
  induction k with
  | zero => exact Nat.zero_le _
  | succ k ih =>
    have h1 : (⟨#[10]⟩ : ByteArray).size = 1 := rfl
    have h2 := ltext_size (ls[k]'(by omega))
    rw [ftext_succ (by omega), wsum_succ (by omega), ByteArray.size_append, ByteArray.size_append, h1]
    have := ih (by omega)
    omega
end Go.Proofs.Ytpffgpjiggdioaa
