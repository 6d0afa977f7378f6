/- Bytes that came in. -/
import Derived.Test.YtppmokkbepihhaaDoorWireKit
import Derived.Test.YtppmokkbepihhaaDoorWirePair
import Derived.Deep.Slices
import Derived.Deep.Fields
import Derived.ChangeSame
import Derived.Lib.SmallJoins
import Derived.OpenShut
import Derived.Deep.Strs
namespace Go.Proofs.YtppmokkbepihhaaDoor
open Go.RowKit Go.ChangeShapes Go.WideShapes Go.Deep
set_option linter.unusedVariables false
set_option maxRecDepth 10000

def AnyN (_ : Nat) : Prop := True
section
variable {H : Type} {enc : TypeId × Value → H} {w : World} {base : Nat} {held : Bool}
/-- A list of bytes, as it came in. -/
theorem open_bys {fuel : Nat} {a : Option Addr} {len cap : Nat} {x : DataW H × List MemPlace} (h : DataW.trod enc Tryd.prog w base (fun _ => true) held fuel 25 [.slice a len cap] = some x) : ∃ L, Sl w a len cap L ∧ ∀ y ∈ L, AnyN y := by
  rcases open_ints Tryd.underlying25 Tryd.underlying5 (by kernel_rfl) h with ⟨hcs, _⟩ | ⟨x, l, c, zs, hcs, _, hl, hm, hz, _, hcell, hwz⟩
  · simp at hcs
    obtain ⟨rfl, rfl, rfl⟩ := hcs
    exact ⟨[], Sl.none, fun _ _ => trivial⟩
  · simp at hcs
    obtain ⟨rfl, rfl, rfl⟩ := hcs
    rw [if_pos rfl] at hz
    exact ⟨_, sl_first len cap (by omega) hl hcell hwz, fun _ _ => trivial⟩
/-- The same, with the bound of its room. -/
def SlM (w : World) (p : Option Addr) (n c : Nat) (L : List Nat) : Prop := Sl w p n c L ∧ c ≤ maxLen
theorem open_bysm {fuel : Nat} {a : Option Addr} {len cap : Nat} {x : DataW H × List MemPlace} (h : DataW.trod enc Tryd.prog w base (fun _ => true) held fuel 25 [.slice a len cap] = some x) : ∃ L, SlM w a len cap L ∧ ∀ y ∈ L, AnyN y := by
  rcases open_ints Tryd.underlying25 Tryd.underlying5 (by kernel_rfl) h with ⟨hcs, _⟩ | ⟨x, l, c, zs, hcs, _, hl, hm, hz, _, hcell, hwz⟩
  · simp at hcs
    obtain ⟨rfl, rfl, rfl⟩ := hcs
    exact ⟨[], ⟨Sl.none, Nat.zero_le _⟩, fun _ _ => trivial⟩
  · simp at hcs
    obtain ⟨rfl, rfl, rfl⟩ := hcs
    rw [if_pos rfl] at hz
    exact ⟨_, ⟨sl_first len cap (by omega) hl hcell hwz, hm⟩, fun _ _ => trivial⟩
end
end Go.Proofs.YtppmokkbepihhaaDoor
