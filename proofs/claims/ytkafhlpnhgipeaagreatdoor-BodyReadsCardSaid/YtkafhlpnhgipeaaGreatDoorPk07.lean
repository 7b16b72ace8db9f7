import Derived.Test.YtkafhlpnhgipeaaGreatDoorPk04
import Derived.Test.YtkafhlpnhgipeaaGreatDoorPk05
import Derived.Test.YtkafhlpnhgipeaaGreatDoorPk06
import Derived.Test.YtkafhlpnhgipeaaGreatDoorPk02
import Derived.BigQuiet
import Derived.Deep.QuietTactic
import Derived.Outline
/-
  Bodies, plain: a batch as bytes, and the batch that bytes are.
-/
namespace Go.Proofs.YtkafhlpnhgipeaaGreatDoor
open Go.RowKit

/-- The keys of all writes. -/
def keysW (l : List Wr) : List ByteArray := l.map (·.key)
/-- A write's tail. -/
def tailL (x : Wr) : List UInt8 := (tailB x.kind x.value x.n).data.toList
/-- The number of a replica's entry. -/
def placeF (h : List Ent) (r : Int) : Nat := h.findIdx (fun e => decide (e.rep = r))
def textsB (T : List ByteArray) : List UInt8 := T.flatMap fun k => spanL k.data.toList
def oneB (h : List Ent) (ahead : Int) (x : Wr) (n : Nat) : List UInt8 :=
  [UInt8.ofNat x.kind.toNat] ++ putL (x.time - ahead).toNat ++ putL (placeF h x.rep) ++ putL n ++ tailL x
def rowB (h : List Ent) : Int → List Wr → List Nat → List UInt8
  | _, [], _ => []
  | _, _ :: _, [] => []
  | ahead, x :: r, n :: N => oneB h ahead x n ++ rowB h x.time r N
def bodyL (f h : List Ent) (l : List Wr) : List UInt8 :=
  vwriteL f ++ vwriteL h ++ putL (tabK [] (keysW l)).length ++ textsB (tabK [] (keysW l)) ++ putL l.length ++ rowB h 0 l (atK [] (keysW l))
/-- A batch as bytes, an error, where. -/
def bodyF (f h : List Ent) (l : List Wr) : List UInt8 × Nat × Int :=
  if (batF f h l).1 ≠ 0 then ([], batF f h l) else if 20000 < (bodyL f h l).length then ([], 4, -1) else (bodyL f h l, 0, -1)
theorem bodyF_bad {f h : List Ent} {l : List Wr} (h0 : (batF f h l).1 ≠ 0) : bodyF f h l = ([], batF f h l) := by unfold bodyF; rw [if_pos h0]
theorem bodyF_big {f h : List Ent} {l : List Wr} (h0 : (batF f h l).1 = 0) (h1 : 20000 < (bodyL f h l).length) : bodyF f h l = ([], 4, -1) := by unfold bodyF; rw [if_neg (by simpa using h0), if_pos h1]
theorem bodyF_ok {f h : List Ent} {l : List Wr} (h0 : (batF f h l).1 = 0) (h1 : ¬ 20000 < (bodyL f h l).length) : bodyF f h l = (bodyL f h l, 0, -1) := by unfold bodyF; rw [if_neg (by simpa using h0), if_neg h1]
theorem textsB_cons (k : ByteArray) (T : List ByteArray) : textsB (k :: T) = spanL k.data.toList ++ textsB T := by simp [textsB]
theorem textsB_app (a b : List ByteArray) : textsB (a ++ b) = textsB a ++ textsB b := by simp [textsB]
theorem rowB_cons (h : List Ent) (ahead : Int) (x : Wr) (r : List Wr) (n : Nat) (N : List Nat) : rowB h ahead (x :: r) (n :: N) = oneB h ahead x n ++ rowB h x.time r N := rfl

/-- The kind that bytes begin with, how many it has, an error. -/
def kindF : List UInt8 → Nat × Nat × Nat
  | [] => (0, 0, 7)
  | c :: _ => if c.toNat < 1 ∨ 4 < c.toNat then (0, 0, 1) else (c.toNat, 1, 0)
/-- So many texts, from a place on. -/
def unT (s : List UInt8) : Nat → Nat → List ByteArray → (Nat × Nat) ⊕ (Nat × List ByteArray)
  | 0, a, T => .inr (a, T)
  | k + 1, a, T => if (getS (s.drop a)).2.2 ≠ 0 then .inl ((getS (s.drop a)).2.2, a) else unT s k (a + (getS (s.drop a)).2.1) (T ++ [⟨(getS (s.drop a)).1.toArray⟩])
theorem unT_bad {s t : List UInt8} {k a n e : Nat} {T : List ByteArray} (h : getS (s.drop a) = (t, n, e)) (he : e ≠ 0) : unT s (k + 1) a T = .inl (e, a) := by unfold unT; rw [h, if_pos he]
theorem unT_ok {s t : List UInt8} {k a n : Nat} {T : List ByteArray} (h : getS (s.drop a) = (t, n, 0)) : unT s (k + 1) a T = unT s k (a + n) (T ++ [⟨t.toArray⟩]) := by rw [unT, h, if_neg (by simp)]

def fillN (K : Int) (l : List UInt8) : Nat := (getN K l).2.1 + (getV K (l.drop (getN K l).2.1)).2.1
def fillV (K : Int) (l : List UInt8) : ByteArray := ⟨(getV K (l.drop (getN K l).2.1)).1.toArray⟩
/-- The write that stands at a place, behind one of such a time; how far it goes; its key's number. -/
def unOne (s : List UInt8) (h : List Ent) (T : List ByteArray) (a : Nat) (ahead : Int) : (Nat × Nat) ⊕ (Nat × Wr × Nat) :=
  match kindF (s.drop a) with
  | (K, _, e) => if e ≠ 0 then .inl (e, a) else
    match intL (s.drop (a + 1)) (1099511627776 - ahead) with
    | (t, k1, e) => if e ≠ 0 then .inl (e, a + 1) else
      match intL (s.drop (a + 1 + k1)) ((h.length : Int) - 1) with
      | (p, k2, e) => if e ≠ 0 then .inl (e, a + 1 + k1) else
        match intL (s.drop (a + 1 + k1 + k2)) ((T.length : Int) - 1) with
        | (n, k3, e) => if e ≠ 0 then .inl (e, a + 1 + k1 + k2) else
          if fillE (ahead + t) (h.getD p ⟨0, 0⟩).rep K (T.getD n ⟨#[]⟩) (s.drop (a + 1 + k1 + k2 + k3)) ≠ 0 then .inl (fillE (ahead + t) (h.getD p ⟨0, 0⟩).rep K (T.getD n ⟨#[]⟩) (s.drop (a + 1 + k1 + k2 + k3)), a + 1 + k1 + k2 + k3)
          else .inr (a + 1 + k1 + k2 + k3 + fillN K (s.drop (a + 1 + k1 + k2 + k3)), ⟨ahead + t, (h.getD p ⟨0, 0⟩).rep, K, T.getD n ⟨#[]⟩, fillV K (s.drop (a + 1 + k1 + k2 + k3)), (getN K (s.drop (a + 1 + k1 + k2 + k3))).1⟩, n)
section
variable {s : List UInt8} {h : List Ent} {T : List ByteArray} {a : Nat} {ahead : Int} {K j t k1 p k2 n k3 e : Nat}
theorem unOne_kind (h0 : kindF (s.drop a) = (K, j, e)) (he : e ≠ 0) : unOne s h T a ahead = .inl (e, a) := by unfold unOne; rw [h0]; simp only; rw [if_pos he]
theorem unOne_time (h0 : kindF (s.drop a) = (K, j, 0)) (h1 : intL (s.drop (a + 1)) (1099511627776 - ahead) = (t, k1, e)) (he : e ≠ 0) : unOne s h T a ahead = .inl (e, a + 1) := by
  unfold unOne; rw [h0]; simp only; rw [if_neg (by simp), h1]; simp only; rw [if_pos he]
theorem unOne_rep (h0 : kindF (s.drop a) = (K, j, 0)) (h1 : intL (s.drop (a + 1)) (1099511627776 - ahead) = (t, k1, 0)) (h2 : intL (s.drop (a + 1 + k1)) ((h.length : Int) - 1) = (p, k2, e)) (he : e ≠ 0) : unOne s h T a ahead = .inl (e, a + 1 + k1) := by
  unfold unOne; rw [h0]; simp only; rw [if_neg (by simp), h1]; simp only; rw [if_neg (by simp), h2]; simp only; rw [if_pos he]
theorem unOne_key (h0 : kindF (s.drop a) = (K, j, 0)) (h1 : intL (s.drop (a + 1)) (1099511627776 - ahead) = (t, k1, 0)) (h2 : intL (s.drop (a + 1 + k1)) ((h.length : Int) - 1) = (p, k2, 0))
    (h3 : intL (s.drop (a + 1 + k1 + k2)) ((T.length : Int) - 1) = (n, k3, e)) (he : e ≠ 0) : unOne s h T a ahead = .inl (e, a + 1 + k1 + k2) := by
  unfold unOne; rw [h0]; simp only; rw [if_neg (by simp), h1]; simp only; rw [if_neg (by simp), h2]; simp only; rw [if_neg (by simp), h3]; simp only; rw [if_pos he]
theorem unOne_fill (h0 : kindF (s.drop a) = (K, j, 0)) (h1 : intL (s.drop (a + 1)) (1099511627776 - ahead) = (t, k1, 0)) (h2 : intL (s.drop (a + 1 + k1)) ((h.length : Int) - 1) = (p, k2, 0))
    (h3 : intL (s.drop (a + 1 + k1 + k2)) ((T.length : Int) - 1) = (n, k3, 0)) (h4 : fillE (ahead + t) (h.getD p ⟨0, 0⟩).rep K (T.getD n ⟨#[]⟩) (s.drop (a + 1 + k1 + k2 + k3)) = e) (he : e ≠ 0) : unOne s h T a ahead = .inl (e, a + 1 + k1 + k2 + k3) := by
  unfold unOne; rw [h0]; simp only; rw [if_neg (by simp), h1]; simp only; rw [if_neg (by simp), h2]; simp only; rw [if_neg (by simp), h3]; simp only; rw [if_neg (by simp), if_pos (by rw [h4]; exact he), h4]
theorem unOne_ok (h0 : kindF (s.drop a) = (K, j, 0)) (h1 : intL (s.drop (a + 1)) (1099511627776 - ahead) = (t, k1, 0)) (h2 : intL (s.drop (a + 1 + k1)) ((h.length : Int) - 1) = (p, k2, 0))
    (h3 : intL (s.drop (a + 1 + k1 + k2)) ((T.length : Int) - 1) = (n, k3, 0)) (h4 : fillE (ahead + t) (h.getD p ⟨0, 0⟩).rep K (T.getD n ⟨#[]⟩) (s.drop (a + 1 + k1 + k2 + k3)) = 0) :
    unOne s h T a ahead = .inr (a + 1 + k1 + k2 + k3 + fillN K (s.drop (a + 1 + k1 + k2 + k3)), ⟨ahead + t, (h.getD p ⟨0, 0⟩).rep, K, T.getD n ⟨#[]⟩, fillV K (s.drop (a + 1 + k1 + k2 + k3)), (getN K (s.drop (a + 1 + k1 + k2 + k3))).1⟩, n) := by
  unfold unOne; rw [h0]; simp only; rw [if_neg (by simp), h1]; simp only; rw [if_neg (by simp), h2]; simp only; rw [if_neg (by simp), h3]; simp only; rw [if_neg (by simp), if_neg (by rw [h4]; simp)]
end

/-- So many writes, from a place on. -/
def unW (s : List UInt8) (h : List Ent) (T : List ByteArray) : Nat → Nat → Int → List Wr → List Nat → (Nat × Nat) ⊕ (Nat × List Wr × List Nat)
  | 0, a, _, W, N => .inr (a, W, N)
  | k + 1, a, ahead, W, N => match unOne s h T a ahead with
    | .inl r => .inl r
    | .inr (b, x, n) => unW s h T k b x.time (W ++ [x]) (N ++ [n])
theorem unW_bad {s : List UInt8} {h : List Ent} {T : List ByteArray} {k a : Nat} {ahead : Int} {W : List Wr} {N : List Nat} {r : Nat × Nat} (h0 : unOne s h T a ahead = .inl r) : unW s h T (k + 1) a ahead W N = .inl r := by rw [unW, h0]
theorem unW_ok {s : List UInt8} {h : List Ent} {T : List ByteArray} {k a b n : Nat} {ahead : Int} {W : List Wr} {N : List Nat} {x : Wr} (h0 : unOne s h T a ahead = .inr (b, x, n)) : unW s h T (k + 1) a ahead W N = unW s h T k b x.time (W ++ [x]) (N ++ [n]) := by rw [unW, h0]

/-- The batch that bytes are: an error, where; or the batch. -/
def unbF (s : List UInt8) : (Nat × Int) ⊕ (List Ent × List Ent × List Wr) :=
  if 20000 < s.length then .inl (4, -1) else
  match vreadF s with
  | (e, n, f) => if e ≠ 0 then .inl (e, 0) else
    match vreadF (s.drop n) with
    | (e, m, h) => if e ≠ 0 then .inl (e, (n : Int)) else
      match intL (s.drop (n + m)) 60 with
      | (k, j, e) => if e ≠ 0 then .inl (e, ((n + m : Nat) : Int)) else
        match unT s k (n + m + j) [] with
        | .inl (e, p) => .inl (e, (p : Int))
        | .inr (b, T) => match intL (s.drop b) 60 with
          | (k2, j2, e) => if e ≠ 0 then .inl (e, (b : Int)) else
            match unW s h T k2 (b + j2) 0 [] [] with
            | .inl (e, p) => .inl (e, (p : Int))
            | .inr (c, W, N) => if c < s.length then .inl (3, (c : Int))
              else if (listF T (N.map Int.ofNat)).2.1 ≠ 0 then .inl ((listF T (N.map Int.ofNat)).2.1, (s.length : Int))
              else if (batF f h W).1 ≠ 0 then .inl ((batF f h W).1, (s.length : Int))
              else .inr (f, h, W)
section
variable {s : List UInt8} {f h : List Ent} {T : List ByteArray} {W : List Wr} {N : List Nat} {n m k j b k2 j2 c e p : Nat}
theorem unb_long (h0 : 20000 < s.length) : unbF s = .inl (4, -1) := by unfold unbF; rw [if_pos h0]
theorem unb_from (h0 : ¬ 20000 < s.length) (h1 : vreadF s = (e, n, f)) (he : e ≠ 0) : unbF s = .inl (e, 0) := by unfold unbF; rw [if_neg h0, h1]; simp only; rw [if_pos he]
theorem unb_have (h0 : ¬ 20000 < s.length) (h1 : vreadF s = (0, n, f)) (h2 : vreadF (s.drop n) = (e, m, h)) (he : e ≠ 0) : unbF s = .inl (e, (n : Int)) := by
  unfold unbF; rw [if_neg h0, h1]; simp only; rw [if_neg (by simp), h2]; simp only; rw [if_pos he]
theorem unb_texts (h0 : ¬ 20000 < s.length) (h1 : vreadF s = (0, n, f)) (h2 : vreadF (s.drop n) = (0, m, h)) (h3 : intL (s.drop (n + m)) 60 = (k, j, e)) (he : e ≠ 0) : unbF s = .inl (e, ((n + m : Nat) : Int)) := by
  unfold unbF; rw [if_neg h0, h1]; simp only; rw [if_neg (by simp), h2]; simp only; rw [if_neg (by simp), h3]; simp only; rw [if_pos he]
theorem unb_text (h0 : ¬ 20000 < s.length) (h1 : vreadF s = (0, n, f)) (h2 : vreadF (s.drop n) = (0, m, h)) (h3 : intL (s.drop (n + m)) 60 = (k, j, 0)) (h4 : unT s k (n + m + j) [] = .inl (e, p)) : unbF s = .inl (e, (p : Int)) := by
  unfold unbF; rw [if_neg h0, h1]; simp only; rw [if_neg (by simp), h2]; simp only; rw [if_neg (by simp), h3]; simp only; rw [if_neg (by simp), h4]
theorem unb_writes (h0 : ¬ 20000 < s.length) (h1 : vreadF s = (0, n, f)) (h2 : vreadF (s.drop n) = (0, m, h)) (h3 : intL (s.drop (n + m)) 60 = (k, j, 0)) (h4 : unT s k (n + m + j) [] = .inr (b, T)) (h5 : intL (s.drop b) 60 = (k2, j2, e)) (he : e ≠ 0) : unbF s = .inl (e, (b : Int)) := by
  unfold unbF; rw [if_neg h0, h1]; simp only; rw [if_neg (by simp), h2]; simp only; rw [if_neg (by simp), h3]; simp only; rw [if_neg (by simp), h4]; simp only; rw [h5]; simp only; rw [if_pos he]
theorem unb_write (h0 : ¬ 20000 < s.length) (h1 : vreadF s = (0, n, f)) (h2 : vreadF (s.drop n) = (0, m, h)) (h3 : intL (s.drop (n + m)) 60 = (k, j, 0)) (h4 : unT s k (n + m + j) [] = .inr (b, T)) (h5 : intL (s.drop b) 60 = (k2, j2, 0)) (h6 : unW s h T k2 (b + j2) 0 [] [] = .inl (e, p)) : unbF s = .inl (e, (p : Int)) := by
  unfold unbF; rw [if_neg h0, h1]; simp only; rw [if_neg (by simp), h2]; simp only; rw [if_neg (by simp), h3]; simp only; rw [if_neg (by simp), h4]; simp only; rw [h5]; simp only; rw [if_neg (by simp), h6]
theorem unb_rest (h0 : ¬ 20000 < s.length) (h1 : vreadF s = (0, n, f)) (h2 : vreadF (s.drop n) = (0, m, h)) (h3 : intL (s.drop (n + m)) 60 = (k, j, 0)) (h4 : unT s k (n + m + j) [] = .inr (b, T)) (h5 : intL (s.drop b) 60 = (k2, j2, 0)) (h6 : unW s h T k2 (b + j2) 0 [] [] = .inr (c, W, N)) :
    unbF s = if c < s.length then .inl (3, (c : Int)) else if (listF T (N.map Int.ofNat)).2.1 ≠ 0 then .inl ((listF T (N.map Int.ofNat)).2.1, (s.length : Int)) else if (batF f h W).1 ≠ 0 then .inl ((batF f h W).1, (s.length : Int)) else .inr (f, h, W) := by
  unfold unbF; rw [if_neg h0, h1]; simp only; rw [if_neg (by simp), h2]; simp only; rw [if_neg (by simp), h3]; simp only; rw [if_neg (by simp), h4]; simp only; rw [h5]; simp only; rw [if_neg (by simp), h6]
end
end Go.Proofs.YtkafhlpnhgipeaaGreatDoor
/-
  A [][]api.Entry that the call itself makes: what append of one run does to it.
-/
namespace Go.Proofs.YtkafhlpnhgipeaaGreatDoor
open Go.RowKit

theorem info_run : (Tryz.prog.info? 22).map (fun i => (i.zero, i.size, i.bytes)) = some (some (.slice none 0 0), 1, 24) := by kernel_rfl

/-- The slice v owns the slices l, in blocks from base on. -/
def ownsR (w : World) (base : Nat) (v : Value) (l : List Value) : Prop := w.ownsRow base 22 1 v l.length l
theorem ownsR_nil (w : World) (base : Nat) : ownsR w base (.slice none 0 0) [] := World.ownsRow_nil _ _ _ _
theorem ownsR.alloc {w : World} {base : Nat} {v : Value} {l : List Value} (h : ownsR w base v l) (o : Obj) : ownsR (w.alloc o) base v l := World.ownsRow.alloc h o
theorem ownsR.drewN {w : World} {base : Nat} {v : Value} {l : List Value} (h : ownsR w base v l) (n : Nat) : ownsR (w.drewN n) base v l := h
theorem ownsR.lt {w : World} {base : Nat} {v : Value} {l : List Value} (h : ownsR w base v l) : ∀ k, v.ownBlock = some k → base ≤ k ∧ k < w.heap.size := World.ownsRow.lt h
theorem ownsR.below {w w' : World} {base : Nat} {v : Value} {l : List Value} (h : ownsR w base v l) (hb : Below w.heap.size w w') : ownsR w' base v l := by
  refine World.ownsRow.kept h (row := none) ⟨hb.os, hb.tape, hb.output, hb.size, fun k hk _ => hb.block k hk⟩ ?_
  cases hv : v.ownBlock with
  | none => exact .inl rfl
  | some g => exact .inr (by simp)
/-- What it looks like: nil and nothing, or a row of cells. -/
theorem ownsR.forms {w : World} {base : Nat} {v : Value} {l : List Value} (h : ownsR w base v l) :
    (v = .slice none 0 0 ∧ l = []) ∨ ∃ g cap, v = .slice (some ⟨g, 0, none⟩) l.length cap ∧ base ≤ g ∧ g < w.heap.size ∧ (∃ cur, w.heap[g]? = some (.cells cur 22 (0, 0))) ∧ ∀ j u, l[j]? = some u → w.cell? ⟨g, j, none⟩ = some u := by
  have hall := h
  obtain ⟨h0, h1⟩ := h
  rcases h1 with ⟨rfl, hn⟩ | ⟨g, cap, cur, rfl, hb, hh, hc, hm, hs, ht⟩
  · exact .inl ⟨rfl, List.length_eq_zero_iff.1 hn⟩
  · refine .inr ⟨g, cap, rfl, hb, (World.ownsRow.lt hall g rfl).2, ⟨cur, hh⟩, fun j u hj => ?_⟩
    have hjl : j < l.length := (List.getElem?_eq_some_iff.1 hj).1
    rw [World.ownsRow.cellAt hall j (by omega)]
    exact hj

theorem wpList_append_run {w : World} {ops : Array Oper} {rest : List Oper} {o : Oper} {a : Act} {Q : Exit → Act → World → Prop} (hgd : o.guard = none) (s x : Operand)
    (ho : o.op = .call { callee := .builtin .append, args := #[s, x], argTypes := #[98, 98] })
    (base : Nat) (v : Value) (l : List Value) (hs : a.eval s = v) (hown : ownsR w base v l)
    (ad : Addr) (c : Nat) (hx : a.eval x = .slice (some ad) 1 c) (d : Value) (hd : ∃ a n m, d = .slice a n m) (hcell : w.cell? (ad.add 0) = some d)
    (hlen : l.length + 1 ≤ 1000000) (hbase : base ≤ w.heap.size)
    (h : ∀ g cap w', ownsR w' base (.slice (some ⟨g, 0, none⟩) (l.length + 1) cap) (l ++ [d]) → w.grownBy w' v.ownBlock → wpList Tryz.prog ops Q rest (a.put o.dst (.slice (some ⟨g, 0, none⟩) (l.length + 1) cap)) w') : wpList Tryz.prog ops Q (o :: rest) a w := by
  obtain ⟨i0, hi, hz0, hz1, hz2⟩ := info_parts info_run
  refine wpList_append_lies w hgd s x 98 ho base 22 i0 (.slice none 0 0) 1 24 Tryz.underlying98 hi hz0 hz1 hz2 rfl (by decide) v l.length l hs hown ad 1 c [d] hx rfl ?_ ?_ (by decide) (by unfold maxLen; omega) (by omega) hbase _ rfl ?_
  · intro j u hj
    match j, hj with
    | 0, hj => simp at hj; subst hj; exact hcell
  · intro u hu; simp at hu; subst hu; obtain ⟨a, n, m, rfl⟩ := hd; rfl
  · intro g cap w' h1 h2 _ _
    refine h g cap w' ?_ h2
    unfold ownsR
    rw [List.length_append]
    exact h1

/-- Each of the slices reads as its run. -/
def areE (w : World) : List Value → List (List Ent) → Prop
  | [], [] => True
  | v :: vs, r :: rs => IsEnts w v r ∧ areE w vs rs
  | _, _ => False
theorem areE_nil (w : World) : areE w [] [] := trivial
theorem areE_len {w : World} {vs : List Value} : ∀ {rs : List (List Ent)}, areE w vs rs → vs.length = rs.length := by
  induction vs with
  | nil => intro rs h; cases rs with
    | nil => rfl
    | cons r rs => exact h.elim
  | cons v vs ih => intro rs h; cases rs with
    | nil => exact h.elim
    | cons r rs => simp [ih h.2]
theorem areE_below {w w' : World} {vs : List Value} : ∀ {rs : List (List Ent)}, areE w vs rs → Below w.heap.size w w' → areE w' vs rs := by
  induction vs with
  | nil => intro rs h _; cases rs with
    | nil => trivial
    | cons r rs => exact h.elim
  | cons v vs ih => intro rs h hb; cases rs with
    | nil => exact h.elim
    | cons r rs => exact ⟨h.1.below hb, ih h.2 hb⟩
theorem areE_snoc {w : World} {vs : List Value} {v : Value} {r : List Ent} (hv : IsEnts w v r) : ∀ {rs : List (List Ent)}, areE w vs rs → areE w (vs ++ [v]) (rs ++ [r]) := by
  induction vs with
  | nil => intro rs h; cases rs with
    | nil => exact ⟨hv, trivial⟩
    | cons r rs => exact h.elim
  | cons v vs ih => intro rs h; cases rs with
    | nil => exact h.elim
    | cons r rs => exact ⟨h.1, ih h.2⟩
theorem areE_at {w : World} {vs : List Value} : ∀ {rs : List (List Ent)} {i : Nat} {r : List Ent}, areE w vs rs → rs[i]? = some r → ∃ v, vs[i]? = some v ∧ IsEnts w v r := by
  induction vs with
  | nil => intro rs i r h hi; cases rs with
    | nil => simp at hi
    | cons r rs => exact h.elim
  | cons v vs ih => intro rs i r h hi; cases rs with
    | nil => exact h.elim
    | cons r rs => cases i with
      | zero => simp at hi; subst hi; exact ⟨v, by simp, h.1⟩
      | succ i => simp at hi; obtain ⟨u, h1, h2⟩ := ih h.2 hi; exact ⟨u, by simpa using h1, h2⟩
end Go.Proofs.YtkafhlpnhgipeaaGreatDoor
/-
  The contracts of vector.cut and vector.behind.
-/
namespace Go.Proofs.YtkafhlpnhgipeaaGreatDoor
open Go.RowKit

set_option maxRecDepth 100000 in
theorem behind_any (v : Value) (l : List Ent) (w : World) (hv : IsEnts w v l) (h0 : l ≠ []) (hl : l.length ≤ 1000000) (hr : ∀ e ∈ l, 0 ≤ e.rep ∧ e.rep ≤ 1000000) :
    Calls Tryz.prog 88 #[v] w fun r w' => r = .returned (.int .i64 ((l.getLastD ⟨0, 0⟩).rep + 2)) ∧ w = w' := by
  have hlen : 0 < l.length := List.length_pos_iff.2 h0
  obtain ⟨a1, c1, rfl, f1⟩ := hv.form
  have ht : l[l.length - 1]? = some (l.getLastD ⟨0, 0⟩) := by
    rw [← List.getLast?_eq_getElem?]
    cases l with
    | nil => exact absurd rfl h0
    | cons e t => simp [List.getLast?_cons]
  obtain ⟨b1, o1, rfl, _, p0, _⟩ := f1 _ _ ht
  have hm := hr _ (List.mem_of_getElem? ht)
  generalize l.getLastD ⟨0, 0⟩ = e at *
  obtain ⟨rep, time⟩ := e
  simp only at p0 hm ⊢
  obtain ⟨n, hn⟩ : ∃ n, n = l.length := ⟨_, rfl⟩
  rw [← hn] at hl hlen p0 ⊢
  obtain ⟨j, hj⟩ : ∃ j, j = n - 1 := ⟨_, rfl⟩
  rw [← hj] at p0
  have hj1 : (n : Int) - 1 = (j : Int) := by omega
  have hj2 : j < n := by omega
  clear hv f1 hn ht hr h0 hj
  go_enter Tryz.func88, Tryz.ntmps88
  go_wp2
  go_ret
  exact ⟨rfl, rfl⟩

/-- What 'cut' answers: the runs, each a part of what came in. -/
def CutIs (w : World) (u : Value) (l : List Ent) (rs : List (List Ent)) (e : Ending) (w' : World) : Prop :=
  ∃ v vs, e = .returned v ∧ ownsR w' w.heap.size v vs ∧ (∀ W, IsEnts W u l → areE W vs rs) ∧ vs.length = rs.length ∧ Below w.heap.size w w'

set_option maxRecDepth 100000 in
set_option maxHeartbeats 4000000 in
theorem cut_any (v : Value) (l : List Ent) (w : World) (hv : IsEnts w v l) (hl : l.length ≤ 100000) (hr : ∀ e ∈ l, 0 ≤ e.rep ∧ e.rep ≤ 1000000) :
    Calls Tryz.prog 87 #[v] w (CutIs w v l (runsL l)) := by
  by_cases hz : l.length = 0
  · obtain rfl := List.length_eq_zero_iff.1 hz
    obtain ⟨a1, c1, rfl, _⟩ := hv.form
    have HR : Hid (runsL ([] : List Ent) = []) := rfl
    rw [HR.out]
    clear hv hl hr hz
    go_enter Tryz.func87, Tryz.ntmps87
    go_wp2
    refine wp_loop_rounds 1 ?_
    rw [rounds_succ]
    go_wp2
    go_ret
    exact ⟨_, [], rfl, ownsR_nil _ _, fun _ _ => trivial, rfl, Below.refl _ _⟩
  · obtain ⟨b, off, c, rfl, hlc, hb, hcells⟩ := hv.lies (by omega)
    have HC := Lib.hid hcells
    obtain ⟨a1, c1, hav, f1⟩ := hv.form
    simp only [Value.slice.injEq, true_and] at hav
    obtain ⟨rfl, rfl⟩ := hav
    have F1 := Lib.hid f1
    have HR := Lib.hid hr
    obtain ⟨n, hn⟩ : ∃ n, n = l.length := ⟨_, rfl⟩
    rw [← hn] at hl hlc hz ⊢ hv
    have HV := Lib.hid hv
    have HN := Lib.hid hn
    have HLC := Lib.hid hlc
    clear hv f1 hn hcells hr
    go_enter Tryz.func87, Tryz.ntmps87
    go_wp2
    go_loopw [3, 4, 8] (fun rv fv i wr => ∃ (k fr : Nat) (vs : List Value) (R : List (List Ent)), k ≤ n ∧ i = .int .i64 k ∧ fv = .int .i64 fr ∧ fr ≤ k ∧ vs.length ≤ k ∧ R ++ cutA ((l.take k).drop fr) (l.drop k) = runsL l ∧ ownsR wr w.heap.size rv vs ∧ (∀ W, IsEnts W (.slice (some ⟨b, off, none⟩) n c) l → areE W vs R) ∧ Below w.heap.size w wr) (fun _ _ i _ => n - (intOf i).toNat)
    case atStart => exact ⟨0, 0, [], [], by omega, rfl, rfl, by omega, Nat.le_refl _, rfl, ownsR_nil _ _, (fun _ _ => trivial), Below.refl _ _⟩
    case round =>
      obtain ⟨k, fr, vs, R, hk, rfl, rfl, hfr, hvs, heq, hown, hare, hbel⟩ := hrel
      have HEQ := Lib.hid heq
      have HO := Lib.hid hown
      have HA := Lib.hid hare
      have HB := Lib.hid hbel
      have hzr := hbel.size
      clear heq hown hare hbel
      by_cases hlt : k < n
      · have hkl : k < l.length := by have := HN.out; omega
        obtain ⟨t, ht⟩ : ∃ t, l[k]? = some t := ⟨l[k], List.getElem?_eq_getElem hkl⟩
        have hd : l.drop k = t :: l.drop (k + 1) := by
          rw [List.drop_eq_getElem_cons hkl]; congr 1
          rw [List.getElem?_eq_getElem hkl] at ht; exact Option.some.inj ht
        have htk : l.take (k + 1) = l.take k ++ [t] := by
          rw [List.take_succ_eq_append_getElem hkl]; congr 2
          rw [List.getElem?_eq_getElem hkl] at ht; exact Option.some.inj ht
        have hcur : (l.take (k + 1)).drop fr = (l.take k).drop fr ++ [t] := by
          rw [htk, List.drop_append_of_le_length (by rw [List.length_take]; omega)]
        obtain ⟨b1, o1, hbo, _, p0, _⟩ := F1.out k t ht
        simp only [Option.some.injEq, Addr.mk.injEq, and_true] at hbo
        obtain ⟨rfl, rfl⟩ := hbo
        have hm := HR.out t (List.mem_of_getElem? ht)
        have q0 := (HB.out.cell (p := ⟨b, off + k * 2, none⟩) hb).trans p0
        obtain ⟨k1, hk1⟩ : ∃ k1, k1 = k + 1 := ⟨_, rfl⟩
        rw [← hk1] at hd htk hcur
        have hfk : fr < k1 := by omega
        have hfk' : (fr : Int) ≤ (k1 : Int) := by omega
        have hkc : k1 ≤ c := by have := HLC.out; omega
        have hkc' : (k1 : Int) ≤ (c : Int) := by omega
        have HP : Hid (∀ W, IsEnts W (.slice (some ⟨b, off, none⟩) n c) l → IsEnts W (.slice (some ⟨b, off + fr * 2, none⟩) (k1 - fr) (c - fr)) ((l.take k1).drop fr)) := Lib.hid (show ∀ W, IsEnts W (.slice (some ⟨b, off, none⟩) n c) l → IsEnts W (.slice (some ⟨b, off + fr * 2, none⟩) (k1 - fr) (c - fr)) ((l.take k1).drop fr) from fun W hW => by
          obtain ⟨b', off', c', hv', hc', hb', hcs'⟩ := hW.lies (by omega)
          simp only [Value.slice.injEq, Option.some.injEq, Addr.mk.injEq, and_true] at hv'
          obtain ⟨⟨rfl, rfl⟩, _, rfl⟩ := hv'
          exact IsEnts.part hcs' hb' fr k1 (by have := HN.out; omega) hfk rfl (by omega))
        by_cases hlast : k1 = n
        · subst hlast
          have hdn : l.drop k1 = [] := List.drop_eq_nil_of_le (by have := HN.out; omega)
          have hcl : cutA ((l.take k).drop fr) (l.drop k) = [(l.take k1).drop fr] := by
            rw [hd, hdn, cutA_one, hcur]
          have HS : Hid ((R ++ [(l.take k1).drop fr]) ++ cutA ((l.take k1).drop k1) (l.drop k1) = runsL l) := Lib.hid (show (R ++ [(l.take k1).drop fr]) ++ cutA ((l.take k1).drop k1) (l.drop k1) = runsL l by
            rw [← HEQ.out, hcl, hdn]
            have : ∀ cur, cutA cur [] = [] := fun _ => rfl
            rw [this, List.append_nil])
          have hw1 : (k : Int) + 1 = (k1 : Int) := by omega
          have hw2 : IntKind.i64.wrap ((k : Int) + 1) = (k1 : Int) := by rw [hw1]; exact IntWalk.i64_in _ (by omega)
          have hw3 : IntKind.i64.wrap (t.rep + 1) = t.rep + 1 := IntWalk.i64_in _ (by omega)
          have HK1 := Lib.hid hk1
          clear hcl hcur htk hd ht p0 hm hk1 hdn
          go_wp2
          go_quiet (fail)
          clear hw2 hw3
          go_wp2_with (at_builtin; refine wpList_append_run rfl _ _ rfl w.heap.size _ vs rfl ((HO.out.drewN _).alloc _) ⟨wr.heap.size, 0, none⟩ 1 rfl (.slice (some ⟨b, off + fr * 2, none⟩) (k1 - fr) (c - fr)) ⟨_, _, _, rfl⟩ ?c1 ?c2 ?c3 ?_)
          case c1 => simp [Addr.add]; exact cell_of_row _ _ 0 _ _ (0, 0) (heap_alloc_new (World.drewN wr _) _)
          case c2 => omega
          case c3 => simp; omega
          · intro g cap w2 ho2 hg2
            have HB2 : Hid (Below w.heap.size w w2) := (((below_drewN HB.out _).alloc (by simp; omega) _).grown hg2 (by simp; omega) (fun g hg => (HO.out.lt g hg).1))
            have HO2 := Lib.hid ho2
            have HA2 : Hid (∀ W, IsEnts W (.slice (some ⟨b, off, none⟩) k1 c) l → areE W (vs ++ [(.slice (some ⟨b, off + fr * 2, none⟩) (k1 - fr) (c - fr) : Value)]) (R ++ [(l.take k1).drop fr])) := Lib.hid (fun W hW => areE_snoc (HP.out W hW) (HA.out W hW))
            obtain ⟨vs2, hvs2⟩ : ∃ vs2, vs ++ [(.slice (some ⟨b, off + fr * 2, none⟩) (k1 - fr) (c - fr) : Value)] = vs2 := ⟨_, rfl⟩
            have hvl : vs2.length = vs.length + 1 := by rw [← hvs2]; simp
            rw [hvs2] at HO2 HA2
            rw [← hvl] at HO2 ⊢
            clear ho2 hg2 hvs2
            go_wp2
            go_roundw
            case rel => exact ⟨k1, k1, vs2, _, by omega, by first | rfl | go_num, by first | rfl | go_num, Nat.le_refl _, by have := HK1.out; omega, HS.out, HO2.out, HA2.out, HB2.out⟩
            case measure => have := HK1.out; simp [intOf]; omega
        · have hk1l : k1 < l.length := by have := HN.out; omega
          obtain ⟨d, hdd⟩ : ∃ d, l[k1]? = some d := ⟨l[k1], List.getElem?_eq_getElem hk1l⟩
          have hd1 : l.drop k1 = d :: l.drop (k1 + 1) := by
            rw [List.drop_eq_getElem_cons hk1l]; congr 1
            rw [List.getElem?_eq_getElem hk1l] at hdd; exact Option.some.inj hdd
          obtain ⟨b1, o1, hbo, _, p1, _⟩ := F1.out k1 d hdd
          simp only [Option.some.injEq, Addr.mk.injEq, and_true] at hbo
          obtain ⟨rfl, rfl⟩ := hbo
          have q1 := (HB.out.cell (p := ⟨b, off + k1 * 2, none⟩) hb).trans p1
          have hk1n : k1 < n := by omega
          have hk1n' : (k1 : Int) < (n : Int) := by omega
          have hn1 : ((k1 : Int) == (n : Int)) = false := by simp; omega
          by_cases hgp : t.rep + 1 < d.rep
          · have hcl : cutA ((l.take k).drop fr) (l.drop k) = (l.take k1).drop fr :: cutA [] (l.drop k1) := by
              rw [hd, hd1, cutA_cut hgp, hcur]
            have HS : Hid ((R ++ [(l.take k1).drop fr]) ++ cutA ((l.take k1).drop k1) (l.drop k1) = runsL l) := Lib.hid (show (R ++ [(l.take k1).drop fr]) ++ cutA ((l.take k1).drop k1) (l.drop k1) = runsL l by
              rw [← HEQ.out, hcl, List.drop_eq_nil_of_le (show (l.take k1).length ≤ k1 by rw [List.length_take]; omega)]
              simp)
            have hw1 : (k : Int) + 1 = (k1 : Int) := by omega
            have hw2 : IntKind.i64.wrap ((k : Int) + 1) = (k1 : Int) := by rw [hw1]; exact IntWalk.i64_in _ (by omega)
            have hw3 : IntKind.i64.wrap (t.rep + 1) = t.rep + 1 := IntWalk.i64_in _ (by omega)
            have HK1 := Lib.hid hk1
            clear hcl hcur htk hd ht p0 hm hk1 p1 hdd hd1
            go_wp2
            go_quiet (fail)
            clear hw2 hw3
            go_wp2_with (at_builtin; refine wpList_append_run rfl _ _ rfl w.heap.size _ vs rfl ((HO.out.drewN _).alloc _) ⟨wr.heap.size, 0, none⟩ 1 rfl (.slice (some ⟨b, off + fr * 2, none⟩) (k1 - fr) (c - fr)) ⟨_, _, _, rfl⟩ ?c1 ?c2 ?c3 ?_)
            case c1 => simp [Addr.add]; exact cell_of_row _ _ 0 _ _ (0, 0) (heap_alloc_new (World.drewN wr _) _)
            case c2 => omega
            case c3 => simp; omega
            · intro g cap w2 ho2 hg2
              have HB2 : Hid (Below w.heap.size w w2) := (((below_drewN HB.out _).alloc (by simp; omega) _).grown hg2 (by simp; omega) (fun g hg => (HO.out.lt g hg).1))
              have HO2 := Lib.hid ho2
              have HA2 : Hid (∀ W, IsEnts W (.slice (some ⟨b, off, none⟩) n c) l → areE W (vs ++ [(.slice (some ⟨b, off + fr * 2, none⟩) (k1 - fr) (c - fr) : Value)]) (R ++ [(l.take k1).drop fr])) := Lib.hid (fun W hW => areE_snoc (HP.out W hW) (HA.out W hW))
              obtain ⟨vs2, hvs2⟩ : ∃ vs2, vs ++ [(.slice (some ⟨b, off + fr * 2, none⟩) (k1 - fr) (c - fr) : Value)] = vs2 := ⟨_, rfl⟩
              have hvl : vs2.length = vs.length + 1 := by rw [← hvs2]; simp
              rw [hvs2] at HO2 HA2
              rw [← hvl] at HO2 ⊢
              clear ho2 hg2 hvs2
              go_wp2
              go_roundw
              case rel => exact ⟨k1, k1, vs2, _, by omega, by first | rfl | go_num, by first | rfl | go_num, Nat.le_refl _, by have := HK1.out; omega, HS.out, HO2.out, HA2.out, HB2.out⟩
              case measure => have := HK1.out; simp [intOf]; omega
          · have hcl : cutA ((l.take k).drop fr) (l.drop k) = cutA ((l.take k1).drop fr) (l.drop k1) := by
              rw [hd, hd1, cutA_on hgp, hcur]
            have HS : Hid (R ++ cutA ((l.take k1).drop fr) (l.drop k1) = runsL l) := Lib.hid (show R ++ cutA ((l.take k1).drop fr) (l.drop k1) = runsL l by
              rw [← HEQ.out, hcl])
            have hgp' : d.rep ≤ t.rep + 1 := by omega
            have hw1 : (k : Int) + 1 = (k1 : Int) := by omega
            have hw2 : IntKind.i64.wrap ((k : Int) + 1) = (k1 : Int) := by rw [hw1]; exact IntWalk.i64_in _ (by omega)
            have hw3 : IntKind.i64.wrap (t.rep + 1) = t.rep + 1 := IntWalk.i64_in _ (by omega)
            have HK1 := Lib.hid hk1
            clear hcl hcur htk hd ht p0 hm hk1 p1 hdd hd1
            go_wp2
            go_quiet (fail)
            clear hw2 hw3
            go_wp2
            go_roundw
            case rel => exact ⟨k1, fr, vs, R, by omega, by first | rfl | go_num, rfl, by have := HK1.out; omega, by have := HK1.out; omega, HS.out, HO.out.drewN _, HA.out, below_drewN HB.out _⟩
            case measure => have := HK1.out; simp [intOf]; omega
      · have hkn : k = n := by omega
        have HRE : Hid (R = runsL l) := Lib.hid (show R = runsL l by
          rw [← HEQ.out, List.drop_eq_nil_of_le (show l.length ≤ k by have := HN.out; omega)]
          have : ∀ cur, cutA cur [] = [] := fun _ => rfl
          rw [this, List.append_nil])
        obtain rfl := HRE.out
        go_wp2
        go_ret
        exact ⟨_, vs, rfl, HO.out, HA.out, areE_len (HA.out w HV.out), HB.out⟩
end Go.Proofs.YtkafhlpnhgipeaaGreatDoor
/-
  The contracts of vector.wrong and vector.Right.
-/
namespace Go.Proofs.YtkafhlpnhgipeaaGreatDoor
open Go.RowKit

set_option maxRecDepth 100000 in
set_option maxHeartbeats 2000000 in
theorem vwrong_any (v : Value) (l : List Ent) (k : Nat) (e : Ent) (last : Int) (w : World) (hv : IsEnts w v l) (hl : l.length ≤ 1000000) (he : l[k]? = some e) (h0 : (k = 0 ∧ last = -1) ∨ ∃ j d, k = j + 1 ∧ l[j]? = some d ∧ last = d.rep) :
    Calls Tryz.prog 115 #[v, .int .i64 (k : Int)] w fun r w' => r = .returned (.int .i64 (wrE e last : Nat)) ∧ Below w.heap.size w w' := by
  obtain ⟨a1, c1, rfl, f1⟩ := hv.form
  obtain ⟨n, hn⟩ : ∃ n, n = l.length := ⟨_, rfl⟩
  have hkl : k < n := by rw [hn]; exact (List.getElem?_eq_some_iff.1 he).1
  rw [← hn] at hl ⊢
  obtain ⟨b1, o1, rfl, hb1, p0, p1⟩ := f1 k e he
  obtain ⟨rep, time⟩ := e
  simp only at p0 p1
  by_cases hr : rep < 0 ∨ 200 < rep ∨ time < 1 ∨ 1099511627776 < time
  · have HW : Hid (wrE ⟨rep, time⟩ last = 2) := Lib.hid (wrE_range hr)
    have HR := Lib.hid hr
    clear hv f1 hn he h0 hr
    rw [HW.out]
    by_cases h1 : rep < 0
    · go_enter Tryz.func115, Tryz.ntmps115
      go_wp2
      go_ret
      exact ⟨rfl, (Below.refl _ _).alloc (Nat.le_refl _) _⟩
    · by_cases h2 : 200 < rep
      · go_enter Tryz.func115, Tryz.ntmps115
        go_wp2
        go_ret
        exact ⟨rfl, (Below.refl _ _).alloc (Nat.le_refl _) _⟩
      · by_cases h3 : time < 1
        · go_enter Tryz.func115, Tryz.ntmps115
          go_wp2
          go_ret
          exact ⟨rfl, (Below.refl _ _).alloc (Nat.le_refl _) _⟩
        · have h4 : 1099511627776 < time := by have := HR.out; omega
          go_enter Tryz.func115, Tryz.ntmps115
          go_wp2
          go_ret
          exact ⟨rfl, (Below.refl _ _).alloc (Nat.le_refl _) _⟩
  · have g1 : 0 ≤ rep := by omega
    have g2 : rep ≤ 200 := by omega
    have g3 : 1 ≤ time := by omega
    have g4 : time ≤ 1099511627776 := by omega
    rcases h0 with ⟨hk0, rfl⟩ | ⟨j, d, rfl, hd, rfl⟩
    · have HW : Hid (wrE ⟨rep, time⟩ (-1) = 0) := Lib.hid (wrE_fine hr (by simp only; omega))
      have z1 : ¬ 0 < k := by omega
      have z2 : decide (0 < k) = false := by simp; omega
      have z3 : decide ((0 : Int) < (k : Int)) = false := by simp; omega
      clear hv f1 hn he hr hk0
      rw [HW.out]
      go_enter Tryz.func115, Tryz.ntmps115
      go_wp2
      go_quiet (fail)
      go_wp2
      go_ret
      exact ⟨rfl, below_drewN ((Below.refl _ _).alloc (Nat.le_refl _) _) _⟩
    · obtain ⟨b2, o2, hbo, _, q0, _⟩ := f1 j d hd
      simp only [Option.some.injEq, Addr.mk.injEq, and_true] at hbo
      obtain ⟨rfl, rfl⟩ := hbo
      obtain ⟨last, dt⟩ := d
      simp only at q0
      obtain ⟨k, hk⟩ : ∃ k, k = j + 1 := ⟨_, rfl⟩
      rw [← hk] at he hkl p0 p1 ⊢
      have hj1 : (k : Int) - 1 = (j : Int) := by omega
      have hj2 : IntKind.i64.wrap ((k : Int) - 1) = (j : Int) := by rw [hj1]; exact IntWalk.i64_in _ (by omega)
      have hk0 : (0 : Int) < (k : Int) := by omega
      have z1 : 0 < k := by omega
      have z2 : decide (0 < k) = true := by simp; omega
      have z3 : decide ((0 : Int) < (k : Int)) = true := by simp; omega
      have hjn : (j : Int) < (n : Int) := by omega
      have hjn' : j < n := by omega
      have hj0 : (0 : Int) ≤ (j : Int) := by omega
      have q0' := (World.cell?_alloc_lt w (.cells #[.int .i64 rep, .int .i64 time] 60) (⟨b1, o1 + j * 2, none⟩ : Addr) hb1).trans q0
      by_cases h5 : rep ≤ last
      · have HW : Hid (wrE ⟨rep, time⟩ (Ent.mk last dt).rep = 10) := Lib.hid (wrE_order hr h5)
        clear hv f1 hn he hr hd hk
        rw [HW.out]
        go_enter Tryz.func115, Tryz.ntmps115
        go_wp2
        go_quiet (fail)
        go_wp2
        go_ret
        exact ⟨rfl, below_drewN ((Below.refl _ _).alloc (Nat.le_refl _) _) _⟩
      · have HW : Hid (wrE ⟨rep, time⟩ (Ent.mk last dt).rep = 0) := Lib.hid (wrE_fine hr h5)
        clear hv f1 hn he hr hd hk
        rw [HW.out]
        go_enter Tryz.func115, Tryz.ntmps115
        go_wp2
        go_quiet (fail)
        go_wp2
        go_ret
        exact ⟨rfl, below_drewN ((Below.refl _ _).alloc (Nat.le_refl _) _) _⟩

set_option maxRecDepth 100000 in
set_option maxHeartbeats 2000000 in
theorem vright_few (v : Value) (l : List Ent) (w : World) (hv : IsEnts w v l) (hl : l.length ≤ 16) :
    Calls Tryz.prog 84 #[v] w (RightIs w (vr l 0 (-1))) := by
  have HV := Lib.hid hv
  obtain ⟨a1, c1, rfl, f1⟩ := hv.form
  obtain ⟨n, hn⟩ : ∃ n, n = l.length := ⟨_, rfl⟩
  rw [← hn] at hl HV ⊢
  have HN := Lib.hid hn
  clear hv f1 hn
  go_enter Tryz.func84, Tryz.ntmps84
  go_wp2
  go_loopw [11] (fun i wr => ∃ (k : Nat) (last : Int), k ≤ n ∧ i = .int .i64 k ∧ ((k = 0 ∧ last = -1) ∨ ∃ j d, k = j + 1 ∧ l[j]? = some d ∧ last = d.rep) ∧ vr l 0 (-1) = vr (l.drop k) k last ∧ Below w.heap.size w wr) (fun i _ => n - (intOf i).toNat)
  case atStart => exact ⟨0, -1, by omega, rfl, .inl ⟨rfl, rfl⟩, rfl, Below.refl _ _⟩
  case round =>
    obtain ⟨k, last, hk, rfl, hla, heq, hbel⟩ := hrel
    have HEQ := Lib.hid heq
    have HLA := Lib.hid hla
    have HB := Lib.hid hbel
    have hzr := hbel.size
    clear heq hbel hla
    by_cases hlt : k < n
    · have hkl : k < l.length := by have := HN.out; omega
      obtain ⟨t, ht⟩ : ∃ t, l[k]? = some t := ⟨l[k], List.getElem?_eq_getElem hkl⟩
      have hd : l.drop k = t :: l.drop (k + 1) := by
        rw [List.drop_eq_getElem_cons hkl]; congr 1
        rw [List.getElem?_eq_getElem hkl] at ht; exact Option.some.inj ht
      have HD := Lib.hid hd
      have HT := Lib.hid ht
      obtain ⟨e, he⟩ : ∃ e, wrE t last = e := ⟨_, rfl⟩
      have HE := Lib.hid he
      clear ht hkl hd he
      go_wp2_with fail
      refine (vwrong_any _ l k t last _ (HV.out.below (HB.out.mono (Nat.le_refl _))) (by have := HN.out; omega) HT.out HLA.out).mono ?_
      rintro r w1 ⟨rfl, hb1⟩
      rw [HE.out]
      have HB1 : Hid (Below w.heap.size w w1) := HB.out.trans (hb1.mono hzr)
      have hz1 := HB1.out.size
      clear hb1
      by_cases h0 : e = 0
      · subst h0
        have HN2 : Hid (vr l 0 (-1) = vr (l.drop (k + 1)) (k + 1) t.rep) := Lib.hid (show vr l 0 (-1) = vr (l.drop (k + 1)) (k + 1) t.rep by rw [HEQ.out, HD.out, vr_good HE.out])
        go_wp2
        go_roundw
        case rel => exact ⟨k + 1, t.rep, by omega, by go_num, .inr ⟨k, t, rfl, HT.out, rfl⟩, HN2.out, HB1.out⟩
        case measure => simp [intOf]; omega
      · have HN2 : Hid (vr l 0 (-1) = (e, (k : Int))) := Lib.hid (show vr l 0 (-1) = (e, (k : Int)) by rw [HEQ.out, HD.out, vr_bad (by rw [HE.out]; exact h0), HE.out])
        have hne : ((e : Int) != 0) = true := by simp; omega
        have H0 := Lib.hid h0
        clear h0
        go_wp2
        go_ret
        rw [HN2.out]
        exact ⟨_, rfl, atIs.new w1 e k H0.out, HB1.out.alloc hz1 _⟩
    · have HN2 : Hid (vr l 0 (-1) = (0, -1)) := Lib.hid (show vr l 0 (-1) = (0, -1) by rw [HEQ.out, List.drop_eq_nil_of_le (by have := HN.out; omega)]; rfl)
      go_wp2
      go_ret
      exact ⟨_, rfl, .inl ⟨HN2.out, rfl⟩, HB.out⟩

theorem vright_any (v : Value) (l : List Ent) (w : World) (hv : IsEnts w v l) (hl : l.length ≤ 9223372036854775807) :
    Calls Tryz.prog 84 #[v] w (VRightIs w (vrightF l)) := by
  by_cases h : 16 < l.length
  · have HW : Hid (vrightF l = (4, -1)) := Lib.hid (show vrightF l = (4, -1) by unfold vrightF; rw [if_pos h])
    obtain ⟨a1, c1, rfl, _⟩ := hv.form
    obtain ⟨n, hn⟩ : ∃ n, n = l.length := ⟨_, rfl⟩
    rw [← hn] at h hl ⊢
    clear hv hn
    rw [HW.out]
    have h2 : 16 < (n : Int) := by omega
    go_enter Tryz.func84, Tryz.ntmps84
    go_wp2
    go_ret
    exact ⟨_, rfl, .inr ⟨by decide, rfl, rfl⟩, Below.refl _ _⟩
  · refine (vright_few v l w hv (by omega)).mono ?_
    rintro e w' ⟨x, h1, h2, h3⟩
    refine ⟨x, h1, .inl ?_, h3⟩
    unfold vrightF; rw [if_neg h]; exact h2
end Go.Proofs.YtkafhlpnhgipeaaGreatDoor
/-
  The contracts of vector.Of and of the document's; of vector.bare.
-/
namespace Go.Proofs.YtkafhlpnhgipeaaGreatDoor
open Go.RowKit

theorem ofF_drop {l : List Ent} {k : Nat} {t : Ent} (h : l[k]? = some t) (x : Int) : ofF (l.drop k) x = if t.rep = x then t.time else ofF (l.drop (k + 1)) x := by
  obtain ⟨hk, ht⟩ := List.getElem?_eq_some_iff.1 h
  rw [List.drop_eq_getElem_cons hk, ht]; rfl

set_option maxRecDepth 100000 in
set_option maxHeartbeats 2000000 in
theorem vof_any (v : Value) (l : List Ent) (x : Int) (w : World) (hv : IsEnts w v l) (hl : l.length ≤ 9223372036854775807) :
    Calls Tryz.prog 131 #[v, .int .i64 x] w fun r w' => r = .returned (.int .i64 (ofF l x)) ∧ Below w.heap.size w w' := by
  obtain ⟨a1, c1, rfl, f1⟩ := hv.form
  have F1 := Lib.hid f1
  obtain ⟨n, hn⟩ : ∃ n, n = l.length := ⟨_, rfl⟩
  rw [← hn] at hl ⊢
  have HN := Lib.hid hn
  clear hv f1 hn
  go_enter Tryz.func131, Tryz.ntmps131
  go_wp2
  go_loopw [9] (fun i wr => ∃ k : Nat, k ≤ n ∧ i = .int .i64 k ∧ ofF l x = ofF (l.drop k) x ∧ Below w.heap.size w wr) (fun i _ => n - (intOf i).toNat)
  case atStart => exact ⟨0, by omega, rfl, rfl, Below.refl _ _⟩
  case round =>
    obtain ⟨k, hk, rfl, heq, hbel⟩ := hrel
    have HEQ := Lib.hid heq
    have HB := Lib.hid hbel
    have hzr := hbel.size
    clear heq hbel
    by_cases hlt : k < n
    · obtain ⟨t, ht⟩ : ∃ t, l[k]? = some t := ⟨l[k]'(by have := HN.out; omega), List.getElem?_eq_getElem _⟩
      obtain ⟨b1, o1, rfl, hb1, p0, p1⟩ := F1.out k t ht
      have hd := ofF_drop ht x
      obtain ⟨rep, time⟩ := t
      simp only at p0 p1 hd
      have q0 := (HB.out.cell (p := ⟨b1, o1 + k * 2, none⟩) hb1).trans p0
      have q1 := (HB.out.cell (p := ⟨b1, o1 + k * 2 + 1, none⟩) hb1).trans p1
      by_cases hx : rep = x
      · have HW : Hid (ofF l x = time) := Lib.hid (show ofF l x = time by rw [HEQ.out, hd, if_pos hx])
        clear p0 p1 ht hd
        subst hx
        go_wp2
        go_ret
        exact ⟨by rw [HW.out]; rfl, HB.out.alloc hzr _⟩
      · have HW : Hid (ofF l x = ofF (l.drop (k + 1)) x) := Lib.hid (show ofF l x = ofF (l.drop (k + 1)) x by rw [HEQ.out, hd, if_neg hx])
        have bx : (rep == x) = false := by simpa using hx
        clear p0 p1 ht hd
        go_wp2
        go_roundw
        case rel => exact ⟨k + 1, by omega, by go_num, HW.out, HB.out.alloc hzr _⟩
        case measure => simp [intOf]; omega
    · have HW : Hid (ofF l x = 0) := Lib.hid (show ofF l x = 0 by rw [HEQ.out, List.drop_eq_nil_of_le (by have := HN.out; omega)]; rfl)
      go_wp2
      go_ret
      exact ⟨by rw [HW.out]; rfl, HB.out⟩

set_option maxRecDepth 100000 in
set_option maxHeartbeats 2000000 in
theorem rof_any (v : Value) (l : List Ent) (x : Int) (w : World) (hv : IsEnts w v l) (hl : l.length ≤ 9223372036854775807) :
    Calls Tryz.prog 77 #[v, .int .i64 x] w fun r w' => r = .returned (.int .i64 (ofF l x)) ∧ w = w' := by
  obtain ⟨a1, c1, rfl, f1⟩ := hv.form
  have F1 := Lib.hid f1
  obtain ⟨n, hn⟩ : ∃ n, n = l.length := ⟨_, rfl⟩
  rw [← hn] at hl ⊢
  have HN := Lib.hid hn
  clear hv f1 hn
  go_enter Tryz.func77, Tryz.ntmps77
  go_wp2
  go_loop [8] (fun i => ∃ k : Nat, k ≤ n ∧ i = .int .i64 k ∧ ofF l x = ofF (l.drop k) x) (fun i => n - (intOf i).toNat)
  case atStart => exact ⟨0, by omega, rfl, rfl⟩
  case round =>
    obtain ⟨k, hk, rfl, heq⟩ := hrel
    have HEQ := Lib.hid heq
    clear heq
    by_cases hlt : k < n
    · obtain ⟨t, ht⟩ : ∃ t, l[k]? = some t := ⟨l[k]'(by have := HN.out; omega), List.getElem?_eq_getElem _⟩
      obtain ⟨b1, o1, rfl, hb1, p0, p1⟩ := F1.out k t ht
      have hd := ofF_drop ht x
      obtain ⟨rep, time⟩ := t
      simp only at p0 p1 hd
      by_cases hx : rep = x
      · have HW : Hid (ofF l x = time) := Lib.hid (show ofF l x = time by rw [HEQ.out, hd, if_pos hx])
        clear ht hd
        subst hx
        go_wp2
        go_ret
        exact ⟨by rw [HW.out]; rfl, rfl⟩
      · have HW : Hid (ofF l x = ofF (l.drop (k + 1)) x) := Lib.hid (show ofF l x = ofF (l.drop (k + 1)) x by rw [HEQ.out, hd, if_neg hx])
        have bx : (rep == x) = false := by simpa using hx
        clear ht hd
        go_wp2
        go_round
        case rel => exact ⟨k + 1, by omega, by go_num, HW.out⟩
        case measure => simp [intOf]; omega
    · have HW : Hid (ofF l x = 0) := Lib.hid (show ofF l x = 0 by rw [HEQ.out, List.drop_eq_nil_of_le (by have := HN.out; omega)]; rfl)
      go_wp2
      go_ret
      exact ⟨by rw [HW.out]; rfl, rfl⟩

/-- An Errno alone, or none. -/
def noV (e : Nat) : Value := if e = 0 then .nilIface else .iface 27 (.int .i64 (e : Nat))
theorem noV_0 : noV 0 = .nilIface := rfl
theorem noV_e {e : Nat} (h : e ≠ 0) : noV e = .iface 27 (.int .i64 (e : Nat)) := by unfold noV; rw [if_neg h]

set_option maxRecDepth 100000 in
set_option maxHeartbeats 1000000 in
theorem vbare_any (v : Value) (l : List Ent) (w : World) (hv : IsEnts w v l) (hl : l.length ≤ 9223372036854775807) (hg : errT w) :
    Calls Tryz.prog 99 #[v] w fun r w' => r = .returned (noV (vrightF l).1) ∧ Below w.heap.size w w' := by
  have HV := Lib.hid hv
  have HG := Lib.hid hg
  obtain ⟨a1, c1, rfl, _⟩ := hv.form
  obtain ⟨n, hn⟩ : ∃ n, n = l.length := ⟨_, rfl⟩
  have HL := Lib.hid hl
  rw [← hn] at HV ⊢
  clear hv hg hn hl
  by_cases h0 : (vrightF l).1 = 0
  · have H0 := Lib.hid h0
    clear h0
    rw [H0.out]
    go_enter Tryz.func99, Tryz.ntmps99
    go_wp2_with fail
    refine (vright_any _ l _ HV.out HL.out).mono ?_
    rintro r w1 ⟨err, rfl, hat, hb1⟩
    obtain rfl := hat.nil H0.out
    have HB1 := Lib.hid hb1
    clear hat hb1
    go_wp2
    go_ret
    exact ⟨rfl, HB1.out⟩
  · have H0 := Lib.hid h0
    have HQ := Lib.hid (noV_e h0)
    clear h0
    go_enter Tryz.func99, Tryz.ntmps99
    go_wp2_with fail
    refine (vright_any _ l _ HV.out HL.out).mono ?_
    rintro r w1 ⟨err, rfl, hat, hb1⟩
    have HE := Lib.hid (hat.isErr H0.out)
    obtain ⟨t, u, rfl⟩ := hat.iface H0.out
    have HB1 := Lib.hid hb1
    have HG1 := Lib.hid (HG.out.below hb1)
    clear hat hb1
    go_wp2_with fail
    refine (tell_err _ _ _ HG1.out HE.out).mono ?_
    rintro r w2 ⟨rfl, hb2⟩
    have HB2 : Hid (Below w.heap.size w w2) := HB1.out.trans (hb2.mono HB1.out.size)
    clear hb2
    go_wp2
    go_ret
    exact ⟨by rw [HQ.out]; rfl, HB2.out⟩
end Go.Proofs.YtkafhlpnhgipeaaGreatDoor
