/-
  An entry cut out of a layer: CutEntry of both sides. Conditions: parts of at most 1048576 bytes.
-/
import Derived.Test.YtpkikpnfliohiaaDoorKeep
import Derived.Laws.AppendOwnNone
import Derived.IntWalk
namespace Go.Proofs.YtpkikpnfliohiaaDoor
open Go.RowKit

theorem EntAt.cells {w : World} {b o : Nat} {e : Ent} (h : EntAt w b o e) : ∀ j u, (ecell e)[j]? = some u → w.cell? ((⟨b, o, none⟩ : Addr).add j) = some u := by
  obtain ⟨h0, h1, h2, h3⟩ := h
  intro j u hj
  match j, hj with
  | 0, hj => simp [ecell] at hj; subst hj; simpa [Addr.add] using h0
  | 1, hj => simp [ecell] at hj; subst hj; simpa [Addr.add] using h1
  | 2, hj => simp [ecell] at hj; subst hj; simpa [Addr.add] using h2
  | 3, hj => simp [ecell] at hj; subst hj; simpa [Addr.add] using h3
  | j + 4, hj => simp [ecell] at hj
theorem EntsAt.cells {w : World} {b o : Nat} {ls : List Ent} (h : ∀ i (h : i < ls.length), EntAt w b (o + i * 4) ls[i]) : ∀ j u, (ecells ls)[j]? = some u → w.cell? ((⟨b, o, none⟩ : Addr).add j) = some u := by
  intro j u hj
  have hlt : j < ls.length * 4 := by
    rw [← ecells_length]
    rcases Nat.lt_or_ge j (ecells ls).length with h | h
    · exact h
    · rw [List.getElem?_eq_none h] at hj; cases hj
  have hi : j / 4 < ls.length := by omega
  have hd : j % 4 < 4 := Nat.mod_lt _ (by omega)
  have hjj : j / 4 * 4 + j % 4 = j := by omega
  have hg := ecells_get ls (j / 4) hi (j % 4) hd
  rw [hjj, hj] at hg
  have := (h (j / 4) hi).cells (j % 4) u hg.symm
  have e : (⟨b, o + j / 4 * 4, none⟩ : Addr).add (j % 4) = (⟨b, o, none⟩ : Addr).add j := by
    have ha : ∀ (x y z : Nat), (⟨x, y, none⟩ : Addr).add z = ⟨x, y + z, none⟩ := fun x y z => by unfold Addr.add; split <;> simp_all
    rw [ha, ha, show o + j / 4 * 4 + j % 4 = o + j from by omega]
  rw [← e]
  exact this
set_option maxRecDepth 100000 in
/-- all entries of a slice put behind a row of the call's own -/
theorem appAllE {w : World} {ops : Array Oper} {rest : List Oper} {o : Oper} {a : Act} {Q : Exit → Act → World → Prop} (hgd : o.guard = none) (s x : Operand)
    (ho : o.op = .call { callee := .builtin .append, args := #[s, x], argTypes := #[23, 23] })
    (base : Nat) (v : Value) (K : List Ent) (hs : a.eval s = v) (hown : OwnE w base v K) (ad : Addr) (m c : Nat) (ns : List Ent) (hx : a.eval x = .slice (some ad) m c) (hm : ns.length = m)
    (hA : EntsAt w (some ad) ns) (hK : K.length ≤ 4194304) (hm2 : m ≤ 1048576) (hbase : base ≤ w.heap.size)
    (h : ∀ v' w', Hid (OwnE w' base v' (K ++ ns)) → Hid (w.grownBy w' v.ownBlock) → wpList Tryd.prog ops Q rest (a.put o.dst v') w') : wpList Tryd.prog ops Q (o :: rest) a w := by
  obtain ⟨i0, hi, hz0, hz1, hz2⟩ := info_parts infoEntry
  refine wpList_append_own _ hgd s x 23 ho base 44 i0 Ent.zero.agg 4 56 Tryd.underlying23 hi hz0 hz1 hz2 rfl (by decide) v K.length (ecells K) hs hown ad m c (ecells ns) hx (by rw [ecells_length, hm]) ?_ (ecells_one ns) (by unfold maxLen; omega) (by omega) hbase ?_
  · intro j u hj
    have hpos : 0 < ns.length := by
      rcases Nat.eq_zero_or_pos ns.length with h | h
      · rw [List.eq_nil_of_length_eq_zero h] at hj; simp [ecells] at hj
      · exact h
    obtain ⟨b, oo, e, hb, hc⟩ := hA hpos
    injection e with e
    subst e
    exact EntsAt.cells hc j u hj
  · intro v' w' h1 h2 _
    refine h v' w' ?_ h2
    unfold Hid OwnE
    rw [List.length_append, ecells_append, hm]
    exact h1
/-- a call's end: it returns entries in a row of the call's own -/
def RetE (es : List Ent) (w : World) (e : Ending) (w' : World) : Prop := ∃ v, e = .returned v ∧ OwnE w' w.heap.size v es ∧ Grows w w'

set_option maxRecDepth 100000 in
set_option maxHeartbeats 2000000 in
theorem specCopyE_any (ad : Addr) (c : Nat) (ls : List Ent) (w : World) (hn : ls.length ≤ 1048576) (hA : EntsAt w (some ad) ls) :
    Calls Tryd.prog 30 #[.slice (some ad) ls.length c] w (RetE ls w) := by
  have HOE := Lib.hid (OwnE.empty w w.heap.size (Nat.le_refl _))
  have HA := Lib.hid (hA.keep ((Grows.refl w).alloc (.cells #[] 44)))
  obtain ⟨n, hnn⟩ : ∃ n, ls.length = n := ⟨_, rfl⟩
  have hn2 : n ≤ 1048576 := by omega
  rw [hnn]
  have HNN := Lib.hid hnn
  clear hA hnn hn
  go_enter Tryd.func30, Tryd.ntmps30
  go_wp2_with (at_builtin; refine appAllE rfl _ _ rfl w.heap.size _ [] rfl HOE.out ad n c ls rfl HNN.out HA.out (by simp) hn2 (by simp) ?_)
  intro v' w2 h1 h2
  have HG2 : Hid (Grows w w2) := ((Grows.refl w).alloc _).mark h2.out (fun k hk => by have h' : some w.heap.size = some k := hk; injection h' with h'; omega)
  have HO2 : Hid (OwnE w2 w.heap.size v' ls) := h1.out
  clear h1 h2
  go_wp2
  go_ret
  exact ⟨_, rfl, HO2.out, HG2.out⟩

theorem nePlace (a b c d : ByteArray) (w : World) : (binOp .neq 42 (.agg #[.string a, .string b]) (.agg #[.string c, .string d])).run Tryd.prog w = .ok (.bool (!((a.toList == c.toList) && (b.toList == d.toList)))) w := by
  go_simp
  repeat' split
  all_goals simp_all

/-- a place in two cells -/
def Box2 (w : World) (b : Nat) (s k : ByteArray) : Prop := w.cell? ⟨b, 0, none⟩ = some (.string s) ∧ w.cell? ⟨b, 1, none⟩ = some (.string k)
theorem Box2.new (w : World) (s k : ByteArray) : Box2 (w.alloc (.cells #[.string s, .string k] 42)) w.heap.size s k := ⟨by simp, by simp⟩
theorem cutB_no {es : List Ent} {s k : ByteArray} (h : vlayer es = false) : cutB es s k = false ∧ cutL es s k = [] := by
  have h1 : cutB es s k = false := by unfold cutB; rw [h]; rfl
  exact ⟨h1, by unfold cutL; rw [h1]; simp⟩
theorem cutB_none {es : List Ent} {s k : ByteArray} (h : es.any (fun x => x.of s k) = false) : cutB es s k = false ∧ cutL es s k = [] := by
  have h1 : cutB es s k = false := by unfold cutB; rw [h]; simp
  exact ⟨h1, by unfold cutL; rw [h1]; simp⟩
theorem cutB_yes {es : List Ent} {s k : ByteArray} (h0 : vlayer es = true) (h : es.any (fun x => x.of s k) = true) : cutB es s k = true ∧ cutL es s k = es.filter (notAt s k) := by
  have h1 : cutB es s k = true := by unfold cutB; rw [h0, h]; rfl
  exact ⟨h1, by unfold cutL; rw [h1]; simp⟩

end Go.Proofs.YtpkikpnfliohiaaDoor
