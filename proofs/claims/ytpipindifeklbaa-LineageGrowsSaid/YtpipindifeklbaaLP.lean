/- Lineage: LineageGrows, both walks. No other condition but that the list lies in memory. -/
import Derived.Test.YtpipindifeklbaaLN
namespace Go.Proofs.Ytpipindifeklbaa
open Go.RowKit

theorem grows_law (A : Option Addr) (c : Nat) (hA : A = none → c = 0) (l : List Mnt) (m : Mnt) (old : Int) (w : World) (h : Ms w w.heap.size A l) (hu : Wide l) (hg : U64 m.g) (hp : U64 m.p) (ho : U64 old) :
    Calls Try.prog 5 #[.slice A l.length c, .agg #[.int .u64 m.g, .int .u64 m.p, .int .i64 m.k], .int .u64 old] w (Yes w) := by
  by_cases q : 100 < (l.length : Int) ∨ m.g = 0
  · exact grows_early A c l m.g m.p m.k old w q
  · exact grows_late A c hA l m.g m.p m.k old w h hu hg hp ho (fun x => q (Or.inl x)) (fun x => q (Or.inr x))
end Go.Proofs.Ytpipindifeklbaa
