/- Nodes at work: the code's calls that layers 17 to 20 have in common; what each answers is the document's. No condition but that the node may be, and lies in memory. -/
import Derived.Test.YtabenngcmpjlhaaGreatXS17
import Derived.Test.YtabenngcmpjlhaaGreatKV
namespace Go.Proofs.YtabenngcmpjlhaaGreat
open Go.RowKit PX
set_option maxRecDepth 100000
section
variable {T : TypeId} {b : Nat} {wB w : World} {n : Nod} {l : List Ou} {a : Adr} {v : Value} {N q : Nat}
theorem wput (hT : WT T) (hF : Fit n.t.s n.t.c n.t.f) (i : Int) (d : ByteArray) {y : Bool} (hy : (n.keep (n.t.put i d)).2 = y) (hx : BoxO w b T (wkC n a v)) (hk : WK wB n a v l w) : Calls Tryz.prog 56 #[.pointer (some ⟨b, 0, none⟩), .int .i64 i, .string d] w (GivesW T b wB v ((n.keep (n.t.put i d)).1, l) (.bool y) w) := by
  subst hy
  have hT2 := hT
  unfold WT at hT
  simp only [List.mem_cons, List.not_mem_nil, or_false] at hT
  rcases hT with rfl <;>
  exact runW (args := [.int .i64 i, .string d]) (by kernel_rfl) st_wk hx hk (t_s (fun u hu => zput_any a.A a.B a.k a.m n.t.s n.t.c n.t.f n.t.x n.t.b n.t.m i d u hu.1.t hF) fun A k B m => t_w _ a n ((n.keep (n.t.put i d)).1, l) (From.refl _ _) (fun u hu => hu.1.2) (fun u b hu _ hx => wkeep hT2 (n.t.put i d) A B k m hx hu.1.1 hu.1.2 hu.2) fun a' A c ho => e_w a' _ (fun u hu => hu) ho)
theorem wwipe (hT : WT T) (hF : Fit n.t.s n.t.c n.t.f) (hm : n.t.m < 4294967296) (i : Int) {y : Bool} (hy : (n.wipe i).2 = y) (hx : BoxO w b T (wkC n a v)) (hk : WK wB n a v l w) : Calls Tryz.prog 36 #[.pointer (some ⟨b, 0, none⟩), .int .i64 i] w (GivesW T b wB v ((n.wipe i).1, l) (.bool y) w) := by
  subst hy
  have hT2 := hT
  unfold WT at hT
  simp only [List.mem_cons, List.not_mem_nil, or_false] at hT
  rcases hT with rfl <;>
  exact runW (args := [.int .i64 i]) (by kernel_rfl) st_wk hx hk (t_s (fun u hu => zwipe_any a.A a.B a.k a.m n.t.s n.t.c n.t.f n.t.x n.t.b n.t.m i u hu.1.t hF hm) fun A k B m => t_w _ a n ((n.wipe i).1, l) (From.refl _ _) (fun u hu => hu.1.2) (fun u b hu _ hx => wkeep hT2 (n.t.wipe i) A B k m hx hu.1.1 hu.1.2 hu.2) fun a' A c ho => e_w a' _ (fun u hu => hu) ho)
theorem wmark (hT : WT T) (hF : Fit n.t.s n.t.c n.t.f) (hm : n.t.m < 4294967296) (i : Int) {y : Bool} (hy : (n.keep (n.t.mark i)).2 = y) (hx : BoxO w b T (wkC n a v)) (hk : WK wB n a v l w) : Calls Tryz.prog 55 #[.pointer (some ⟨b, 0, none⟩), .int .i64 i] w (GivesW T b wB v ((n.keep (n.t.mark i)).1, l) (.bool y) w) := by
  subst hy
  have hT2 := hT
  unfold WT at hT
  simp only [List.mem_cons, List.not_mem_nil, or_false] at hT
  rcases hT with rfl <;>
  exact runW (args := [.int .i64 i]) (by kernel_rfl) st_wk hx hk (t_s (fun u hu => zmark_any a.A a.B a.k a.m n.t.s n.t.c n.t.f n.t.x n.t.b n.t.m i u hu.1.t hF hm) fun A k B m => t_w _ a n ((n.keep (n.t.mark i)).1, l) (From.refl _ _) (fun u hu => hu.1.2) (fun u b hu _ hx => wkeep hT2 (n.t.mark i) A B k m hx hu.1.1 hu.1.2 hu.2) fun a' A c ho => e_w a' _ (fun u hu => hu) ho)
theorem t_at {bo : List Nat} {F : Value → S → World → Prop} {K : World → Prop} {t : Tree} {f : FuncId} {args : List Value} {A : Option Addr} {c : Nat} (T : TypeId) (n : Nod) (a : Adr) (r : Nod × List Ou) (x : Value) (ho : From w (.slice none 0 0) (.slice A l.length c)) (hr : ∀ u, K u → NM u n a ∧ Rw w (.slice A l.length c) l u)
    (hc : ∀ u b, w.heap.size ≤ u.heap.size → WK w n a (.slice A l.length c) l u → BoxO u b T (wkC n a (.slice A l.length c)) → Calls Tryz.prog f (.pointer (some ⟨b, 0, none⟩) :: args).toArray u (GivesW T b w (.slice A l.length c) r x u))
    (h : ∀ a' A c, From w (.slice none 0 0) (.slice A r.2.length c) → OK ⟨Tryz.prog, tyL, w, bo, []⟩ F (t.nc x (wkC r.1 a' (.slice A r.2.length c))) fun u => NM u r.1 a' ∧ Rw w (.slice A r.2.length c) r.2 u) (hT : tyL T = true := by kernel_rfl) (hd : t.hd = .cgrow f T (wkC n a (.slice A l.length c)) args := by kernel_rfl) : OK ⟨Tryz.prog, tyL, w, bo, []⟩ F t K :=
  t_w (v0 := .slice none 0 0) T a n r ho (fun u hu => (hr u hu).2) (fun u b hu hz hx => hc u b hz (hr u hu) hx) h hT hd
end
end Go.Proofs.YtabenngcmpjlhaaGreat
