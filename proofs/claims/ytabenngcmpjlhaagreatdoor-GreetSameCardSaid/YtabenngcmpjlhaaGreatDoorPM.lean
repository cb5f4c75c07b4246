/- Disks in memory through calls carried out plainly: what stays, and the steps by what callees answer. No condition. -/
import Derived.Test.YtabenngcmpjlhaaGreatDoorPV
import Derived.Test.YtabenngcmpjlhaaGreatDoorKE
namespace Go.Proofs.YtabenngcmpjlhaaGreatDoor
open Go.RowKit PX
section
variable {ap : TypeId → Bool} {w w' : World} {A : Option Addr} {T : TypeId}
theorem Ty.sameB (h : Ty w A T) (e : Ext ap w w') (hT : ap T = false) : ∀ a, A = some a → w'.heap[a.block]? = w.heap[a.block]? := fun a ha => by
  obtain ⟨cs, fr, hc⟩ := h a ha
  rcases e.blk a.block (Array.getElem?_eq_some_iff.1 hc).1 with q | ⟨T', c1, c2, h1, h2, _⟩
  · exact q
  · unfold BoxO at h2
    rw [hc] at h2
    injection h2 with h2
    injection h2 with _ h2
    subst h2
    rw [hT] at h1
    cases h1
theorem Ty.ext (h : Ty w A T) (e : Ext ap w w') (hT : ap T = false) : Ty w' A T := fun a ha => by
  obtain ⟨cs, fr, hc⟩ := h a ha
  exact ⟨cs, fr, (h.sameB e hT a ha).trans hc⟩
theorem Es.ext {α : Type} {enc : α → Value} {l : List α} (h : Es enc w w.heap.size A l) (ht : Ty w A T) (e : Ext ap w w') (hT : ap T = false) : Es enc w' w'.heap.size A l := by
  intro j x hj
  obtain ⟨a, ha, hlt, hc⟩ := h j x hj
  exact ⟨a, ha, Nat.lt_of_lt_of_le hlt e.size, (cell_of (add_block a j) (ht.sameB e hT a ha)).trans hc⟩
theorem Ws.ext {l : List Wr} (h : Ws w w.heap.size A l) (ht : Ty w A T) (e : Ext ap w w') (hT : ap T = false) : Ws w' w'.heap.size A l := by
  intro j x hj
  obtain ⟨a, ha, hlt, hc, hd⟩ := h j x hj
  have hs := ht.sameB e hT a ha
  exact ⟨a, ha, Nat.lt_of_lt_of_le hlt e.size, (cell_of (add_block ..) hs).trans hc, (cell_of (by show (a.add (j * 2)).block = _; exact add_block ..) hs).trans hd⟩
theorem Mem.ext {B : Option Addr} {n m : Nat} {s : List ByteArray} {l : List Wr} (h : Mem w A n B m s l) (e : Ext tyL w w') : Mem w' A n B m s l :=
  ⟨h.es.ext h.ta e rfl, h.ws.ext h.tb e rfl, h.an, h.bn, h.ta.ext e rfl, h.tb.ext e rfl⟩
end
theorem st_mem (A : Option Addr) (n : Nat) (B : Option Addr) (m : Nat) (s : List ByteArray) (l : List Wr) : Stab tyL fun u => Mem u A n B m s l := fun _ _ e h => h.ext e
section
variable {w : World} {F : Value → S → World → Prop} {R' : Ending → World → Prop} {K : World → Prop} {t : Tree} {f : FuncId} {args : Array Value}
theorem t_d {bo rows : List Nat} {F : Value → S → World → Prop} {K : World → Prop} {t : Tree} {f : FuncId} {args : Array Value} {s : List ByteArray} {c : List Wr} {g : Int} {y : Bool} {r : Int} (hc : ∀ u, K u → Calls Tryz.prog f args u (GivesD s c g y r u)) (h : ∀ A B n m, OK ⟨Tryz.prog, tyL, w, bo, rows⟩ F (t.nv (.tuple #[.agg #[.slice A s.length n, .slice B c.length m, .int .i64 g, .bool y], .int .i64 r])) fun u => K u ∧ Mem u A n B m s c) (hd : t.hd = .call (.fn f) args.toList := by kernel_rfl) : OK ⟨Tryz.prog, tyL, w, bo, rows⟩ F t K :=
  t_call (fun u hu _ => hc u hu) (fun u e u' hu hb hr => by
    obtain ⟨A, B, n, m, he, h1, h3⟩ := hr
    exact ⟨_, _, he, h3, st_mem _ _ _ _ _ _, h1, h A B n m⟩) hd
theorem t_vb {v : Value} (hc : ∀ u, K u → Below w.heap.size w u → Calls Tryz.prog f args u fun e u' => e = .returned v ∧ Below u.heap.size u u') (h : OK ⟨Tryz.prog, tyL, w, [], []⟩ F (t.nv v) K) (hd : t.hd = .call (.fn f) args.toList := by kernel_rfl) : OK ⟨Tryz.prog, tyL, w, [], []⟩ F t K :=
  t_call (fun u hu hb => hc u hu (base_below hb)) (fun u e u' hu hb hr => ⟨v, fun _ => True, hr.1, hr.2, st_p _, trivial, by simpa using h⟩) hd
end
end Go.Proofs.YtabenngcmpjlhaaGreatDoor
