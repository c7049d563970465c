/- xde rules of lists, by short names. -/
import Derived.Below
import Derived.Lib.Hide
namespace Go.Proofs.YtjinnigjfopbcaaGreatDoor
theorem lH {p : Prop} (h : p) : RowKit.Hid p := Lib.hid h
theorem zsA {α : Type _} (l : List α) (i : Nat) (a : α) : l.toArray.setIfInBounds i a = (l.set i a).toArray := List.setIfInBounds_toArray ..
theorem zsB {α : Type _} (a b : α) (l : List α) : (a :: l).set 0 b = b :: l := rfl
theorem zsC {α : Type _} (a b : α) (l : List α) (i : Nat) : (a :: l).set (i + 1) b = a :: l.set i b := rfl
end Go.Proofs.YtjinnigjfopbcaaGreatDoor
