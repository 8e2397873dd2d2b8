import Derived.Test.YtadhimimdmoodaaRows
import Derived.WalkKit
import Derived.WalkSpells
import Derived.WalkLawsBesides
import Derived.BigQuiet
import Derived.Deep.QuietTactic
namespace Go.Proofs.Ytadhimimdmoodaa
open Go.RowKit

/-- The number of a variable, -1 where it is none. -/
def varOf (c : Int) : Int := if 97 ≤ c ∧ c ≤ 100 then c - 97 else -1

set_option maxHeartbeats 400000 in
theorem variable_any (c : Int) (w : World) (h0 : 0 ≤ c) (h1 : c ≤ 255) :
    Calls Try.prog 50 #[.int .u8 c] w fun e w' => e = .returned (.int .i64 (varOf c)) ∧ w' = w := by
  unfold varOf
  by_cases ha : 97 ≤ c
  · by_cases hb : c ≤ 100
    · go_enter Try.func50, Try.ntmps50
      go_wp2
      go_ret
      exact ⟨rfl, rfl⟩
    · go_enter Try.func50, Try.ntmps50
      go_wp2
      go_ret
      exact ⟨rfl, rfl⟩
  · go_enter Try.func50, Try.ntmps50
    go_wp2
    go_ret
    exact ⟨rfl, rfl⟩

set_option maxHeartbeats 400000 in
theorem now_any (r g p : Nat) (n cap : Nat) (w : World) (hn : 0 < n) (hcap : n ≤ 20)
    (hs : w.cell? ⟨r, 1, none⟩ = some (.slice (some ⟨g, 0, none⟩) n cap))
    (hp : w.cell? ⟨g, n - 1, none⟩ = some (.pointer (some ⟨p, 0, none⟩))) :
    Calls Try.prog 53 #[.pointer (some ⟨r, 0, none⟩)] w fun e w' => e = .returned (.pointer (some ⟨p, 0, none⟩)) ∧ ∃ k, w' = w.drewN k := by
  go_enter Try.func53, Try.ntmps53
  go_wp2
  go_quiet (fail)
  go_wp2
  go_ret
  exact ⟨rfl, _, rfl⟩

end Go.Proofs.Ytadhimimdmoodaa
