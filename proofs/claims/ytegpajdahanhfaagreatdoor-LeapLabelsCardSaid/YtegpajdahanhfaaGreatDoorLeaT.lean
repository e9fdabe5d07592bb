/- The laws of layer 6: the values of the small case. -/
import Derived.Test.YtegpajdahanhfaaGreatDoorLeaS
namespace Go.Proofs.YtegpajdahanhfaaGreatDoor
open Go.RowKit Go.Shelf Fx Cv Lp

def Lp.fT (_ : Nat) : Int × Int := (3692217600, 37)
def Lp.f35 (_ : Nat) : Int × Int := (3692217600, 35)
def Lp.xT : ByteArray := ⟨#[35, 32, 108, 101, 97, 112, 32, 115, 101, 99, 111, 110, 100, 115, 10, 35, 64, 9, 51, 57, 48, 48, 48, 48, 48, 48, 48, 48, 10, 35, 61, 32, 51, 54, 32, 10, 10, 51, 54, 57, 50, 50, 49, 55, 54, 48, 48, 9, 51, 55, 32, 35, 32, 50, 48, 49, 55]⟩
theorem aw_chk : chkL 36 3900000000 fT 1 = 0 := by kernel_rfl
theorem aw_tai : taiE 36 3900000000 fT 1 3692217599 true = 0 ∧ taiV 36 3900000000 fT 1 3692217599 true = 3692217636 := ⟨by kernel_rfl, by kernel_rfl⟩
theorem aw_utc : utV 36 3900000000 fT 1 3692217636 = 3692217599 ∧ utP 36 3900000000 fT 1 3692217636 = true ∧ utE 36 3900000000 fT 1 3692217636 = 0 := ⟨by kernel_rfl, by kernel_rfl, by kernel_rfl⟩
theorem aw_off : offU 36 3900000000 fT 1 3692217599 = 36 ∧ offU 36 3900000000 fT 1 3692217600 = 37 := ⟨by kernel_rfl, by kernel_rfl⟩
theorem aw_ind : indV 36 3900000000 fT 1 3692217599 = 1 ∧ indV 36 3900000000 fT 1 3689539200 = 1 ∧ indV 36 3900000000 fT 1 3689539199 = 0 ∧ indV 36 3900000000 fT 1 3692217600 = 0 ∧ indV 36 3900000000 fT 1 3900000000 = 3 := ⟨by kernel_rfl, by kernel_rfl, by kernel_rfl, by kernel_rfl, by kernel_rfl⟩
theorem aw_par : parV xT.data.toList = (0, ⟨36, 3900000000, true, true, [(3692217600, 37)]⟩) := by kernel_rfl
theorem aw_nx : nxK 36 3900000000 fT 1 0 = true ∧ nxE 36 3900000000 fT 1 0 = (3692217600, 37) := ⟨by kernel_rfl, by kernel_rfl⟩
theorem aw_tai2 : taiE 36 3900000000 f35 1 3692217599 false = 11 ∧ taiV 36 3900000000 f35 1 3692217599 false = 0 := ⟨by kernel_rfl, by kernel_rfl⟩
theorem aw_txt : txL 36 3900000000 fT 1 = ⟨#[35, 64, 32, 51, 57, 48, 48, 48, 48, 48, 48, 48, 48, 10, 35, 61, 32, 51, 54, 10, 51, 54, 57, 50, 50, 49, 55, 54, 48, 48, 32, 51, 55, 10]⟩ := by kernel_rfl
end Go.Proofs.YtegpajdahanhfaaGreatDoor
