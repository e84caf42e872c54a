/- PolicyKnown: names that are and that are none. -/
import Derived.Test.YtcigbfjmnhogiabGreatDoorNam
import Derived.Test.YtcigbfjmnhogiabGreatDoorShr
namespace Go.Proofs.YtcigbfjmnhogiabGreatDoor
open Go Go.RowKit

theorem isname_at (s : ByteArray) (b : Bool) (h : isNm s = b) (w : World) : Calls Tryz.prog 5 #[.string s] w fun e w' => VEnd w (.bool b) e w' := by
  subst h
  exact isname_any s w
theorem nm_0 : isNm ⟨#[110, 110, 110, 110, 110, 110, 110, 110, 110, 110, 110, 110, 110, 110, 110, 110, 110, 110, 110, 110, 110, 110, 110, 110]⟩ = true := by kernel_rfl
theorem nm_1 : isNm ⟨#[97, 46, 45, 48]⟩ = true := by kernel_rfl
theorem nm_2 : isNm ⟨#[110, 110, 110, 110, 110, 110, 110, 110, 110, 110, 110, 110, 110, 110, 110, 110, 110, 110, 110, 110, 110, 110, 110, 110, 110]⟩ = false := by kernel_rfl
theorem nm_3 : isNm ⟨#[]⟩ = false := by kernel_rfl
theorem nm_4 : isNm ⟨#[48, 97]⟩ = false := by kernel_rfl
theorem nm_5 : isNm ⟨#[46, 97]⟩ = false := by kernel_rfl
theorem nm_6 : isNm ⟨#[65]⟩ = false := by kernel_rfl
theorem nm_7 : isNm ⟨#[97, 95, 98]⟩ = false := by kernel_rfl
theorem long_more : long ++ ⟨#[110]⟩ = ⟨#[110, 110, 110, 110, 110, 110, 110, 110, 110, 110, 110, 110, 110, 110, 110, 110, 110, 110, 110, 110, 110, 110, 110, 110, 110]⟩ := by kernel_rfl
end Go.Proofs.YtcigbfjmnhogiabGreatDoor
