/-
  What SetValue and AddNote make fits into memory; short values of short files. Pure. Conditions: at most 1048576 bytes in all.
-/
import Derived.Test.YtclopcbpelhiaaaDoorSetA
import Derived.Test.YtclopcbpelhiaaaDoorLook
import Derived.Test.YtclopcbpelhiaaaDoorMeanP
import Derived.Test.YtclopcbpelhiaaaDoorDWhere
namespace Go.Proofs.YtclopcbpelhiaaaDoor
open Go.RowKit

theorem setR_fits {ls : List Ln} {s key v : ByteArray} (hf : AllFit ls) (hs : s.size ≤ 1048576) (hk : key.size ≤ 1048576) (hv : v.size ≤ 1048576) (h20 : (setR ls s key v).length ≤ 20) : AllFit (setR ls s key v) := by
  have hm2 : ∀ i (h : i < [headL s, pairL key v].length), [headL s, pairL key v][i].fits := fun i h => by
    have h9 : i = 0 ∨ i = 1 := by simp at h; omega
    rcases h9 with rfl | rfl
    · exact ⟨Nat.zero_le _, hs, Nat.zero_le _, Nat.zero_le _, Nat.zero_le _⟩
    · exact ⟨Nat.zero_le _, hk, by show newSep.size ≤ maxLen; decide, Nat.le_trans hv (by unfold maxLen; omega), Nat.zero_le _⟩
  have hm1 : ∀ i (h : i < [pairL key v].length), [pairL key v][i].fits := fun i h => by
    have h9 : i = 0 := by simp at h; omega
    subst h9
    exact hm2 1 (by simp)
  unfold setR at h20 ⊢
  split
  · exact valL_fits hf hv
  · rename_i h0
    rw [if_neg h0] at h20
    split
    · rename_i h1
      rw [if_pos h1] at h20
      exact AllFit.small hf hm2 h20
    · rename_i h1
      rw [if_neg h1] at h20
      exact AllFit.small hf hm1 h20
theorem setL_fits {ls : List Ln} {s key v : ByteArray} (hf : AllFit ls) (hs : s.size ≤ 1048576) (hk : key.size ≤ 1048576) (hv : v.size ≤ 1048576) (hb : setB ls s key v = true) : AllFit (setL ls s key v) := by
  have h := setQ_of hb
  rw [h.2]
  exact setR_fits hf hs hk hv (vfile_20 hb)
theorem addNL_fits {ls : List Ln} {s key note : ByteArray} (hf : AllFit ls) (hno : note.size ≤ 1048576) (hb : addNB ls s key note = true) : AllFit (addNL ls s key note) := by
  unfold addNB at hb
  unfold addNL
  split
  · exact ⟨by simp, fun i h => absurd h (by simp)⟩
  · rename_i h0
    rw [if_neg h0] at hb
    unfold chkL
    rw [if_pos hb]
    refine AllFit.small hf (fun i h => ?_) (vfile_20 hb)
    have h9 : i = 0 := by simp at h; omega
    subst h9
    exact ⟨Nat.zero_le _, Nat.zero_le _, Nat.zero_le _, Nat.le_trans hno (by unfold maxLen; omega), Nat.zero_le _⟩
theorem getV_short {ls : List Ln} (h : ShortL ls) (s key : ByteArray) : (getV ls s key).size ≤ 41 := by
  unfold getV
  split
  · show 0 ≤ 41
    omega
  · have hw := where_lt ls s key
    have hk : (whereOf ls s key).toNat < ls.length := by omega
    rw [get_bang hk]
    exact (h _ (List.getElem_mem hk)).2.2.2.2.1

/-- what the file that SetValue makes tells -/
structure SetT (K : List Ln) (s key v : ByteArray) (R : List Ln) : Prop where
  fits : AllFit R
  again : setL R s key v = R ∧ setB R s key v = true
  get : getB R s key = true ∧ getV R s key = v
  vR : vfile R = true
  old : getB K s key = true → R.length = K.length ∧ setL K s key (getV K s key) = K ∧ setB K s key (getV K s key) = true
  new : getB K s key = false → K.length < R.length
  list : ∀ e ∈ layOf K, getB R e.s e.k = true ∧ (getV R e.s e.k = e.v ∨ (e.s = s ∧ e.k = key))
theorem setT_of {K : List Ln} {s key v : ByteArray} (hf : AllFit K) (hs : s.size ≤ 1048576) (hk : key.size ≤ 1048576) (hv : v.size ≤ 1048576) (hb : setB K s key v = true) : SetT K s key v (setL K s key v) := by
  have h := (setQ_of hb).1
  have hg := h.get
  refine ⟨setL_fits hf hs hk hv hb, set_told h.vR hg.1 hg.2, hg, h.vR, fun ho => ?_, fun hn => ?_, fun e he => ?_⟩
  · have h0 : ¬ whereOf K s key < 0 := by unfold getB at ho; simpa using ho
    obtain ⟨h1, h2⟩ := set_told h.v0 ho rfl
    exact ⟨h.old (by omega), h1, h2⟩
  · have h0 : whereOf K s key < 0 := by unfold getB at hn; simpa using hn
    exact h.new h0
  · obtain ⟨h1, h2⟩ := (lay_mem_get h.v0).1 he
    have hev : e.v = getV K e.s e.k := by rw [h2]; rfl
    by_cases hx : e.s = s ∧ e.k = key
    · rw [hx.1, hx.2]
      exact ⟨hg.1, .inr ⟨rfl, rfl⟩⟩
    · obtain ⟨h3, h4⟩ := h.other hx
      rw [h3, h1]
      exact ⟨rfl, .inl ((h4 h1).trans hev.symm)⟩
end Go.Proofs.YtclopcbpelhiaaaDoor
