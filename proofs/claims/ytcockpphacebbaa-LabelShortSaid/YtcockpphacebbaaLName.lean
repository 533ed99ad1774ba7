/- Names of the law's items. -/
import Derived.Test.YtcockpphacebbaaLNumbers
namespace Go.Proofs.Ytcockpphacebbaa
open Go.RowKit Rv Lb
set_option linter.unusedVariables false
def names8 : List ByteArray := [⟨#[97]⟩, ⟨#[98]⟩, ⟨#[46, 101, 110, 100]⟩, ⟨#[102, 58, 49]⟩, ⟨#[109, 97, 105, 110]⟩, ⟨#[126]⟩, ⟨#[76, 48]⟩, ⟨#[76, 49]⟩]
def endName : ByteArray := ⟨#[101, 110, 100]⟩
theorem names8_lab : ∀ s ∈ endName :: names8, isLab s = true := by decide +kernel
theorem names8_size : ∀ s ∈ endName :: names8, s.size ≤ 4 := by decide +kernel
def SomeName (w : World) (e : Ending) (w' : World) : Prop := ∃ s, s ∈ names8 ∧ e = .returned (.string s) ∧ Both w w'
set_option maxHeartbeats 4000000 in
theorem name3_any (n : Int) (hn : inInt n) (w : World) : Calls Try.prog 31 #[.int .i64 n] w (SomeName w) := by
  obtain ⟨p1, p2⟩ := pick_bd n 8 (by omega)
  obtain ⟨p, hp⟩ : ∃ p, pick n 8 = p := ⟨_, rfl⟩
  rw [hp] at p1 p2
  have HP := Lib.hid hp
  have HN := Lib.hid hn
  clear hp hn
  have h8 : p = 0 ∨ p = 1 ∨ p = 2 ∨ p = 3 ∨ p = 4 ∨ p = 5 ∨ p = 6 ∨ p = 7 := by omega
  clear p1 p2
  rcases h8 with rfl | rfl | rfl | rfl | rfl | rfl | rfl | rfl
  all_goals
    go_enter Try.func31, Try.ntmps31
    go_wp2_with (go_at_call 13; ((with_reducible refine (pick3 HN.out (by omega) HP.out _).mono ?_); rintro e w' ⟨rfl, rfl⟩))
    go_ret
    exact ⟨_, by simp [names8], rfl, (Both.refl _).alloc _ _⟩
end Go.Proofs.Ytcockpphacebbaa
