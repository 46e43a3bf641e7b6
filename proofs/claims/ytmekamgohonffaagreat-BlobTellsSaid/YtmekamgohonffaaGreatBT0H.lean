/- A short form. -/
import Derived.Lib.Hide
namespace Go.Proofs.YtmekamgohonffaaGreat
open Go Go.RowKit
theorem zH {p : Prop} (h : p) : Hid p := Lib.hid h
end Go.Proofs.YtmekamgohonffaaGreat
