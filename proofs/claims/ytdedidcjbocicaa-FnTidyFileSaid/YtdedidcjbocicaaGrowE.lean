/-
  Rows of entries that a call makes by append: the row of nothing, one more entry, what a call that returns a layer hands over. Condition: at most 1048576 entries.
-/
import Derived.Test.YtdedidcjbocicaaMarkE
import Derived.Test.YtdedidcjbocicaaGrow
import Derived.Deep.AppendLies
namespace Go.Proofs.Ytdedidcjbocicaa
open Go.RowKit

/-- an entry of nothing -/
def Ent.zero : Ent := ⟨⟨#[]⟩, ⟨#[]⟩, 0, ⟨#[]⟩⟩
theorem ecells_append (a b : List Ent) : ecells (a ++ b) = ecells a ++ ecells b := by
  induction a with
  | nil => rfl
  | cons y a ih => simp [ecells, ih, List.append_assoc]
theorem ecells_one (es : List Ent) : ∀ u ∈ ecells es, u.oneCell' = true := by
  induction es with
  | nil => intro u hu; simp [ecells] at hu
  | cons e es ih =>
    intro u hu
    rw [ecells, List.mem_append] at hu
    rcases hu with h | h
    · simp [ecell] at h
      rcases h with rfl | rfl | rfl | rfl <;> rfl
    · exact ih u h
theorem one_newsE (w : World) (e : Ent) (t : TypeId) {p : Nat} (hp : w.heap.size = p) : ∀ j u, (ecells [e])[j]? = some u → (w.alloc (.cells #[.string e.s, .string e.k, .int .i64 e.op, .string e.v] t)).cell? ((⟨p, 0, none⟩ : Addr).add j) = some u := fun j u hj => by
  subst hp
  exact World.news_of_block (heap_alloc_new w _) j u (by simpa [ecells, ecell] using hj)
end Go.Proofs.Ytdedidcjbocicaa
