/-
  A slice of lines in memory, and what the specification's test of a file returns. Conditions: at most 1048576 lines, each part at most 1048576 bytes.
-/
import Derived.Test.YtdedidcjbocicaaLine3
namespace Go.Proofs.Ytdedidcjbocicaa
open Go.RowKit

/-- the six cells of a line lie from place o of block b on -/
def LnAt (w : World) (b o : Nat) (l : Ln) : Prop :=
  w.cell? ⟨b, o, none⟩ = some (.int .i64 l.k) ∧ w.cell? ⟨b, o + 1, none⟩ = some (.string l.le) ∧ w.cell? ⟨b, o + 2, none⟩ = some (.string l.na) ∧
  w.cell? ⟨b, o + 3, none⟩ = some (.string l.se) ∧ w.cell? ⟨b, o + 4, none⟩ = some (.string l.va) ∧ w.cell? ⟨b, o + 5, none⟩ = some (.string l.ta)
/-- the slice's lines lie there -/
def LnsAt (w : World) (A : Option Addr) (ls : List Ln) : Prop :=
  0 < ls.length → ∃ b o, A = some ⟨b, o, none⟩ ∧ b < w.heap.size ∧ ∀ i (h : i < ls.length), LnAt w b (o + i * 6) ls[i]
theorem LnAt.keep {w w' : World} {b o : Nat} {l : Ln} (h : LnAt w b o l) (hb : b < w.heap.size) (g : Grows w w') : LnAt w' b o l := by
  obtain ⟨h0, h1, h2, h3, h4, h5⟩ := h
  exact ⟨(g.cell hb).trans h0, (g.cell hb).trans h1, (g.cell hb).trans h2, (g.cell hb).trans h3, (g.cell hb).trans h4, (g.cell hb).trans h5⟩
theorem LnsAt.keep {w w' : World} {A : Option Addr} {ls : List Ln} (h : LnsAt w A ls) (g : Grows w w') : LnsAt w' A ls := fun h0 => by
  obtain ⟨b, o, e, hb, hc⟩ := h h0
  exact ⟨b, o, e, Nat.lt_of_lt_of_le hb g.size, fun i hi => (hc i hi).keep hb g⟩
theorem LnsAt.nil (w : World) (A : Option Addr) : LnsAt w A [] := fun h => absurd h (Nat.lt_irrefl _)

def AllFit (ls : List Ln) : Prop := ls.length ≤ 1048576 ∧ ∀ i (h : i < ls.length), ls[i].fits
/-- all lines are valid -/
def vlines (ls : List Ln) : Bool := ls.all vline
def vfile (ls : List Ln) : Bool := vlines ls && decide (ls.length ≤ 20)
/-- the first k are valid -/
def VUpto (ls : List Ln) (k : Nat) : Prop := ∀ j (h : j < ls.length), j < k → vline ls[j] = true
theorem VUpto.zero (ls : List Ln) : VUpto ls 0 := fun _ _ h => absurd h (Nat.not_lt_zero _)
theorem VUpto.succ {ls : List Ln} {k : Nat} (h : VUpto ls k) (hk : k < ls.length) (hv : vline ls[k] = true) : VUpto ls (k + 1) := by
  intro j hj hjk
  by_cases e : j = k
  · subst e; exact hv
  · exact h j hj (by omega)
theorem VUpto.all {ls : List Ln} (h : VUpto ls ls.length) : vlines ls = true := by
  unfold vlines
  rw [List.all_eq_true]
  intro l hl
  obtain ⟨j, hj, rfl⟩ := List.getElem_of_mem hl
  exact h j hj hj
theorem vlines_not {ls : List Ln} {k : Nat} (hk : k < ls.length) (h : vline ls[k] = false) : vlines ls = false := by
  unfold vlines
  rw [← Bool.not_eq_true, List.all_eq_true]
  intro hall
  rw [hall _ (List.getElem_mem hk)] at h
  cases h

/-- the box of a file -/
def fbox (A : Option Addr) (n c : Nat) : Obj := .cells #[.slice A n c] 25

set_option maxHeartbeats 1000000 in
theorem specFile_any (A : Option Addr) (c : Nat) (ls : List Ln) (w : World) (hf : AllFit ls) (hA : LnsAt w A ls) :
    Calls Try.prog 23 #[.agg #[.slice A ls.length c]] w fun e w' => e = .returned (.bool (vfile ls)) ∧ Grows w w' := by
  have hn := hf.1
  have HF := Lib.hid hf.2
  have HA := Lib.hid hA
  clear hA hf
  obtain ⟨n, hnn⟩ : ∃ n, ls.length = n := ⟨_, rfl⟩
  rw [hnn] at hn
  rw [hnn]
  have HN := Lib.hid hnn
  clear hnn
  go_enter Try.func23, Try.ntmps23
  go_wp2
  go_loopw [3] (fun i wr => ∃ k : Nat, k ≤ n ∧ i = .int .i64 k ∧ VUpto ls k ∧ Grows (w.alloc (fbox A n c)) wr) (fun i _ => n - (intOf i).toNat)
  case atStart => exact ⟨0, Nat.zero_le _, rfl, VUpto.zero _, Grows.refl _⟩
  case round =>
    obtain ⟨k, hk, rfl, hL, hg⟩ := hrel
    have HL := Lib.hid hL
    clear hL
    have HG := Lib.hid hg
    have hb0 : wr.cell? ⟨w.heap.size, 0, none⟩ = some (.slice A n c) := (HG.out.cell (p := ⟨w.heap.size, 0, none⟩) (by simp)).trans (by simp [fbox])
    clear hg
    by_cases hlt : k < n
    · obtain ⟨b, o, rfl, hb, hc⟩ := HA.out (by rw [HN.out]; omega)
      have hk2 : k < ls.length := by rw [HN.out]; exact hlt
      have hbs : b < w.heap.size + 1 := by omega
      obtain ⟨l, hl⟩ : ∃ l, ls[k] = l := ⟨_, rfl⟩
      have hat := (((hc k hk2).keep hb ((Grows.refl _).alloc (fbox (some ⟨b, o, none⟩) n c))).keep (by simpa using hbs) HG.out)
      rw [hl] at hat
      obtain ⟨c0, c1, c2, c3, c4, c5⟩ := hat
      have HS := Lib.hid (fun w => specLine_any l w (hl ▸ HF.out k hk2))
      have HK := Lib.hid hl
      clear hl hc
      unfold Ln.agg at HS
      by_cases hv : vline l = true
      · have HV := Lib.hid hv
        rw [hv] at HS
        clear hv
        go_wp2_with fail
        refine (HS.out _).mono ?_
        rintro e w1 ⟨rfl, hg1⟩
        go_wp2
        go_roundw
        case rel => exact ⟨k + 1, by omega, by go_num, HL.out.succ hk2 (by rw [HK.out]; exact HV.out), HG.out.trans hg1⟩
        case measure => simp [intOf]; omega
      · have hv' : vline l = false := by simpa using hv
        have HV : Hid (vfile ls = false) := by
          unfold Hid vfile
          rw [vlines_not hk2 (by rw [HK.out]; exact hv')]; rfl
        rw [hv'] at HS
        clear hv hv'
        go_wp2_with fail
        refine (HS.out _).mono ?_
        rintro e w1 ⟨rfl, hg1⟩
        go_wp2
        go_ret
        exact ⟨ret_bool HV.out.symm, (((Grows.refl _).alloc _).trans HG.out).trans hg1⟩
    · obtain rfl : k = n := by omega
      have HV : Hid (vfile ls = decide (k ≤ 20)) := by
        unfold Hid vfile
        rw [VUpto.all (by rw [HN.out]; exact HL.out), HN.out]; rfl
      go_wp2
      go_ret
      exact ⟨ret_bool (by rw [HV.out, Bool.eq_iff_iff]; simp; omega), ((Grows.refl _).alloc _).trans HG.out⟩
end Go.Proofs.Ytdedidcjbocicaa
