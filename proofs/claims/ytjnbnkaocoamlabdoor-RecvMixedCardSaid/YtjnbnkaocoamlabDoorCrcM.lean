/-
  Plain mathematics of chapter 3: sums. A sum is a Nat below 2^32; 'st' is what a bit of 0 does to it, 'pass' a byte of 0, 'run' bytes. No Go text is named here.
-/
import Derived.WalkKit
namespace Go.Proofs.YtjnbnkaocoamlabDoor

theorem xcan (a b : Nat) : a ^^^ b ^^^ b = a := by rw [Nat.xor_assoc, Nat.xor_self, Nat.xor_zero]
theorem xcan' (a b : Nat) : a ^^^ (a ^^^ b) = b := by rw [← Nat.xor_assoc, Nat.xor_self, Nat.zero_xor]
theorem x4 (a b c d : Nat) : (a ^^^ b) ^^^ (c ^^^ d) = (a ^^^ c) ^^^ (b ^^^ d) := by
  rw [Nat.xor_assoc, Nat.xor_assoc, ← Nat.xor_assoc b, Nat.xor_comm b c, Nat.xor_assoc c]
theorem x_eq_zero {a b : Nat} (h : a ^^^ b = 0) : a = b := by
  have := xcan a b
  rw [h, Nat.zero_xor] at this
  exact this.symm

/-- One bit of 0 goes by. -/
def st (x : Nat) : Nat := if x % 2 = 1 then x / 2 ^^^ 2197175160 else x / 2
/-- Some bits of 0 go by. -/
def stn : Nat → Nat → Nat
  | 0, x => x
  | k + 1, x => st (stn k x)
/-- A byte of 0 goes by. -/
def pass (x : Nat) : Nat := stn 8 x

theorem st_odd {x : Nat} (h : x % 2 = 1) : st x = x / 2 ^^^ 2197175160 := if_pos h
theorem st_even {x : Nat} (h : x % 2 ≠ 1) : st x = x / 2 := if_neg h
theorem st_zero : st 0 = 0 := rfl
theorem st_xor (a b : Nat) : st (a ^^^ b) = st a ^^^ st b := by
  have hp : (a ^^^ b) % 2 = 1 ↔ ¬(a % 2 = 1 ↔ b % 2 = 1) := Nat.xor_mod_two_eq_one
  by_cases ha : a % 2 = 1 <;> by_cases hb : b % 2 = 1
  · rw [st_even (by rw [Ne, hp]; simp [ha, hb]), st_odd ha, st_odd hb, Nat.xor_div_two, x4, Nat.xor_self, Nat.xor_zero]
  · rw [st_odd (hp.2 (by simp [ha, hb])), st_odd ha, st_even hb, Nat.xor_div_two, Nat.xor_assoc, Nat.xor_assoc, Nat.xor_comm 2197175160]
  · rw [st_odd (hp.2 (by simp [ha, hb])), st_even ha, st_odd hb, Nat.xor_div_two, Nat.xor_assoc]
  · rw [st_even (by rw [Ne, hp]; simp [ha, hb]), st_even ha, st_even hb, Nat.xor_div_two]
theorem st_lt {x : Nat} (h : x < 4294967296) : st x < 4294967296 := by
  have h2 : x / 2 < 2 ^ 32 := by omega
  by_cases hx : x % 2 = 1
  · rw [st_odd hx]; exact Nat.xor_lt_two_pow (n := 32) h2 (by decide)
  · rw [st_even hx]; omega
theorem st_eq_zero {x : Nat} (h : x < 4294967296) (h0 : st x = 0) : x = 0 := by
  by_cases hx : x % 2 = 1
  · rw [st_odd hx] at h0; have := x_eq_zero h0; omega
  · rw [st_even hx] at h0; omega

theorem stn_succ (k x : Nat) : stn (k + 1) x = st (stn k x) := rfl
theorem stn_zero_bits (x : Nat) : stn 0 x = x := rfl
theorem stn_add (a b x : Nat) : stn (a + b) x = stn a (stn b x) := by
  induction a with
  | zero => rw [Nat.zero_add]; rfl
  | succ a ih => rw [Nat.succ_add, stn_succ, ih, stn_succ]
theorem stn_st (k x : Nat) : stn k (st x) = stn (k + 1) x := (stn_add k 1 x).symm
theorem stn_zero (k : Nat) : stn k 0 = 0 := by
  induction k with
  | zero => rfl
  | succ k ih => rw [stn_succ, ih]; rfl
theorem stn_xor (k a b : Nat) : stn k (a ^^^ b) = stn k a ^^^ stn k b := by
  induction k with
  | zero => rfl
  | succ k ih => rw [stn_succ, ih, st_xor]; rfl
theorem stn_lt (k : Nat) {x : Nat} (h : x < 4294967296) : stn k x < 4294967296 := by
  induction k with
  | zero => exact h
  | succ k ih => exact st_lt ih
theorem stn_eq_zero (k : Nat) {x : Nat} (h : x < 4294967296) (h0 : stn k x = 0) : x = 0 := by
  induction k with
  | zero => exact h0
  | succ k ih => exact ih (st_eq_zero (stn_lt k h) h0)
theorem xlt {a b : Nat} (ha : a < 4294967296) (hb : b < 4294967296) : a ^^^ b < 4294967296 := Nat.xor_lt_two_pow (n := 32) ha hb
theorem stn_inj (k : Nat) {x y : Nat} (hx : x < 4294967296) (hy : y < 4294967296) (h : stn k x = stn k y) : x = y := by
  refine x_eq_zero (stn_eq_zero k (xlt hx hy) ?_)
  rw [stn_xor, h, Nat.xor_self]

theorem pass_xor (a b : Nat) : pass (a ^^^ b) = pass a ^^^ pass b := stn_xor 8 a b
theorem pass_lt {x : Nat} (h : x < 4294967296) : pass x < 4294967296 := stn_lt 8 h
theorem pass_zero : pass 0 = 0 := rfl

/-- What bytes do to a sum, nothing being turned. -/
def run (c : Nat) : List UInt8 → Nat
  | [] => c
  | b :: r => run (pass (c ^^^ b.toNat)) r

theorem byte_lt (b : UInt8) : b.toNat < 4294967296 := by have := b.toNat_lt; omega
theorem run_append (l r : List UInt8) : ∀ c, run c (l ++ r) = run (run c l) r := by
  induction l with
  | nil => intro c; rfl
  | cons b l ih => intro c; exact ih _
theorem run_snoc (c : Nat) (l : List UInt8) (b : UInt8) : run c (l ++ [b]) = pass (run c l ^^^ b.toNat) := run_append l [b] c
theorem run_lt (l : List UInt8) : ∀ {c}, c < 4294967296 → run c l < 4294967296 := by
  induction l with
  | nil => intro c h; exact h
  | cons b l ih => intro c h; exact ih (pass_lt (xlt h (byte_lt b)))
theorem run_take (c : Nat) (l : List UInt8) (k : Nat) (h : k < l.length) : run c (l.take (k + 1)) = pass (run c (l.take k) ^^^ l[k].toNat) := by
  rw [List.take_succ_eq_append_getElem h, run_snoc]
theorem run_two (l : List UInt8) : ∀ a c, run (a ^^^ c) l = stn (8 * l.length) a ^^^ run c l := by
  induction l with
  | nil => intro a c; rfl
  | cons b l ih =>
    intro a c
    show run (pass (a ^^^ c ^^^ b.toNat)) l = _ ^^^ run (pass (c ^^^ b.toNat)) l
    rw [Nat.xor_assoc, pass_xor, ih, List.length_cons, Nat.mul_succ, stn_add]; rfl
theorem run_split (c : Nat) (l : List UInt8) : run c l = stn (8 * l.length) c ^^^ run 0 l := by
  have := run_two l c 0; rwa [Nat.xor_zero] at this
theorem run_noughts (c n : Nat) : run c (List.replicate n 0) = stn (8 * n) c := by
  induction n generalizing c with
  | zero => rfl
  | succ n ih =>
    rw [List.replicate_succ]
    show run (pass (c ^^^ 0)) _ = _
    rw [Nat.xor_zero, ih, Nat.mul_succ, stn_add]; rfl

/-- Turned. -/
def inv (x : Nat) : Nat := x ^^^ 4294967295
theorem inv_inv (x : Nat) : inv (inv x) = x := xcan _ _
theorem inv_lt {x : Nat} (h : x < 4294967296) : inv x < 4294967296 := xlt h (by decide)
theorem inv_sub {x : Nat} (h : x < 4294967296) : inv x = 4294967295 - x := by
  unfold inv
  have e : 4294967295 - x = 2 ^ 32 - (x + 1) := by omega
  rw [e]
  refine Nat.eq_of_testBit_eq fun i => ?_
  rw [Nat.testBit_two_pow_sub_succ h, Nat.testBit_xor, show (4294967295 : Nat) = 2 ^ 32 - 1 by decide, Nat.testBit_two_pow_sub_one]
  by_cases hi : i < 32
  · simp [hi]
  · have : x.testBit i = false := Nat.testBit_lt_two_pow (Nat.lt_of_lt_of_le h (Nat.pow_le_pow_right (by decide) (by omega) : 2 ^ 32 ≤ 2 ^ i))
    simp [hi, this]

def more (c : Nat) (l : List UInt8) : Nat := inv (run (inv c) l)
def sum (l : List UInt8) : Nat := more 0 l
def join (a b n : Nat) : Nat := stn (8 * n) a ^^^ b

theorem more_lt {c : Nat} (l : List UInt8) (h : c < 4294967296) : more c l < 4294967296 := inv_lt (run_lt l (inv_lt h))
theorem sum_lt (l : List UInt8) : sum l < 4294967296 := more_lt l (by decide)
theorem join_lt {a b : Nat} (n : Nat) (ha : a < 4294967296) (hb : b < 4294967296) : join a b n < 4294967296 := xlt (stn_lt _ ha) hb
theorem more_append (c : Nat) (l r : List UInt8) : more c (l ++ r) = more (more c l) r := by
  unfold more; rw [run_append, inv_inv]
theorem sum_append (l r : List UInt8) : sum (l ++ r) = more (sum l) r := more_append 0 l r
theorem join_sum (l r : List UInt8) : join (sum l) (sum r) r.length = sum (l ++ r) := by
  unfold join sum more
  rw [run_append, run_split (run (inv 0) l) r, run_split (inv 0) r]
  unfold inv
  rw [stn_xor, Nat.zero_xor]
  generalize stn (8 * r.length) (run 4294967295 l) = x
  generalize stn (8 * r.length) 4294967295 = y
  rw [Nat.xor_assoc y, x4, ← Nat.xor_assoc, Nat.xor_assoc x, Nat.xor_self, Nat.xor_zero]
  rw [Nat.xor_assoc]
theorem join_three (a b c n m : Nat) : join (join a b n) c m = join a (join b c m) (n + m) := by
  unfold join
  rw [stn_xor, Nat.mul_add, Nat.add_comm, stn_add, Nat.xor_assoc]
theorem join_none (a : Nat) : join a 0 0 = a := Nat.xor_zero a
theorem join_front (a n : Nat) : join 0 a n = a := by unfold join; rw [stn_zero, Nat.zero_xor]
theorem sum_nil : sum [] = 0 := by decide

/-- Three texts taken together by exclusive or. -/
theorem run_three (n : Nat) (a b c d : List UInt8) (ha : n ≤ a.length) (hb : n ≤ b.length) (hc : n ≤ c.length) (hd : d.length = n)
    (h : ∀ i, (h : i < n) → (d[i]'(by omega)).toNat = (a[i]'(by omega)).toNat ^^^ (b[i]'(by omega)).toNat ^^^ (c[i]'(by omega)).toNat) (x : Nat) :
    ∀ k, k ≤ n → run x (d.take k) = run x (a.take k) ^^^ run x (b.take k) ^^^ run x (c.take k) := by
  intro k
  induction k with
  | zero => intro _; show x = x ^^^ x ^^^ x; rw [Nat.xor_self, Nat.zero_xor]
  | succ k ih =>
    intro hk
    rw [run_take x d k (by omega), run_take x a k (by omega), run_take x b k (by omega), run_take x c k (by omega), ih (by omega), h k (by omega), ← pass_xor, ← pass_xor, x4 _ _ (_ ^^^ _), x4 (run x (List.take k a))]
theorem sum_three (n : Nat) (a b c d : List UInt8) (ha : n ≤ a.length) (hb : n ≤ b.length) (hc : n ≤ c.length) (hd : d.length = n)
    (h : ∀ i, (h : i < n) → (d[i]'(by omega)).toNat = (a[i]'(by omega)).toNat ^^^ (b[i]'(by omega)).toNat ^^^ (c[i]'(by omega)).toNat) :
    sum (a.take n) ^^^ sum (b.take n) ^^^ sum (c.take n) = sum d := by
  have := run_three n a b c d ha hb hc hd h (inv 0) n (Nat.le_refl _)
  rw [List.take_of_length_le (by omega)] at this
  unfold sum more
  rw [this]
  unfold inv
  rw [x4 (run _ (a.take n)), Nat.xor_self, Nat.xor_zero, ← Nat.xor_assoc]

/-- One byte that is another one. -/
theorem sum_one (a r : List UInt8) (x : UInt8) : sum (a ++ [x] ++ r) = stn (8 * r.length) (pass x.toNat) ^^^ sum (a ++ [0] ++ r) := by
  unfold sum more
  rw [run_append, run_snoc, pass_xor, run_append (a ++ [0]), run_snoc, Nat.xor_comm (pass _), run_two]
  unfold inv
  rw [Nat.xor_assoc]
  show _ ^^^ (run (pass (run _ a)) r ^^^ _) = _ ^^^ (run (pass (run _ a ^^^ 0)) r ^^^ _)
  rw [Nat.xor_zero]
theorem sum_shift (a b r : List UInt8) (x y : UInt8) :
    sum (a ++ [x] ++ r) ^^^ sum (a ++ [y] ++ r) = sum (b ++ [x] ++ r) ^^^ sum (b ++ [y] ++ r) := by
  rw [sum_one a r x, sum_one a r y, sum_one b r x, sum_one b r y, x4, x4 _ (sum (b ++ [0] ++ r)), Nat.xor_self, Nat.xor_self]
theorem sum_same (a r : List UInt8) (x y : UInt8) : x = y ↔ sum (a ++ [x] ++ r) = sum (a ++ [y] ++ r) := by
  constructor
  · rintro rfl; rfl
  · intro h
    rw [sum_one a r x, sum_one a r y] at h
    have h2 : stn (8 * r.length) (pass x.toNat) = stn (8 * r.length) (pass y.toNat) := by
      have := congrArg (· ^^^ sum (a ++ [0] ++ r)) h
      simpa only [xcan] using this
    have h3 := stn_inj _ (pass_lt (byte_lt x)) (pass_lt (byte_lt y)) h2
    have h4 := stn_inj 8 (byte_lt x) (byte_lt y) h3
    exact UInt8.toNat_inj.1 h4

/-- A sum's bytes, the lowest one first. -/
def tail4 (n : Nat) : List UInt8 := [UInt8.ofNat n, UInt8.ofNat (n / 256), UInt8.ofNat (n / 65536), UInt8.ofNat (n / 16777216)]
def sealL (l : List UInt8) : List UInt8 := l ++ tail4 (sum l)
theorem tail4_len (n : Nat) : (tail4 n).length = 4 := rfl
theorem tail4_inj {n m : Nat} (hn : n < 4294967296) (hm : m < 4294967296) (h : tail4 n = tail4 m) : n = m := by
  unfold tail4 at h
  simp only [List.cons.injEq, and_true] at h
  obtain ⟨h0, h1, h2, h3⟩ := h
  have k : ∀ a b : Nat, UInt8.ofNat a = UInt8.ofNat b → a % 256 = b % 256 := by
    intro a b e
    have := congrArg UInt8.toNat e
    simpa using this
  have := k _ _ h0
  have := k _ _ h1
  have := k _ _ h2
  have := k _ _ h3
  omega
/-- What is sealed, opened: the text and an error's number (0: none). -/
def openL (l : List UInt8) : List UInt8 × Nat :=
  if l.length < 4 then ([], 7) else if l.drop (l.length - 4) = tail4 (sum (l.take (l.length - 4))) then (l.take (l.length - 4), 0) else ([], 15)

/-- Bytes as one number, the lowest one first. -/
def val : List UInt8 → Nat
  | [] => 0
  | b :: r => b.toNat ^^^ 256 * val r

theorem st_two (y : Nat) : st (2 * y) = y := by rw [st_even (by omega)]; omega
theorem stn_pow (k : Nat) : ∀ y, stn k (y * 2 ^ k) = y := by
  induction k with
  | zero => intro y; exact Nat.mul_one y
  | succ k ih => intro y; rw [← stn_st, Nat.pow_succ, ← Nat.mul_assoc, Nat.mul_comm _ 2, st_two, ih]
theorem run_val (l : List UInt8) : ∀ c, run c l = stn (8 * l.length) (c ^^^ val l) := by
  induction l with
  | nil => intro c; exact (Nat.xor_zero c).symm
  | cons b l ih =>
    intro c
    show run (stn 8 (c ^^^ b.toNat)) l = _
    rw [ih, List.length_cons, Nat.mul_succ, stn_add]
    congr 1
    show _ = stn 8 (c ^^^ (b.toNat ^^^ 256 * val l))
    rw [← Nat.xor_assoc, stn_xor 8 _ (256 * val l), Nat.mul_comm 256, show 256 = 2 ^ 8 by decide, stn_pow]
theorem xor_byte (b y : Nat) (hb : b < 256) : b ^^^ 256 * y = b + 256 * y := by
  have h1 : (b ^^^ 256 * y) % 2 ^ 8 = b := by rw [Nat.xor_mod_two_pow]; simp [show 256 * y % 2 ^ 8 = 0 by omega]; omega
  have h2 : (b ^^^ 256 * y) / 2 ^ 8 = y := by rw [Nat.xor_div_two_pow]; simp [show b / 2 ^ 8 = 0 by omega]
  omega
theorem val_cons (b : UInt8) (l : List UInt8) : val (b :: l) = b.toNat + 256 * val l := xor_byte _ _ b.toNat_lt
theorem val_lt (l : List UInt8) : val l < 2 ^ (8 * l.length) := by
  induction l with
  | nil => decide
  | cons b l ih =>
    have := b.toNat_lt
    rw [val_cons, List.length_cons, Nat.mul_succ, Nat.pow_add]
    omega
theorem val_inj (l : List UInt8) : ∀ r, l.length = r.length → val l = val r → l = r := by
  induction l with
  | nil => intro r h _; exact (List.length_eq_zero_iff.1 h.symm).symm
  | cons b l ih =>
    intro r h hv
    cases r with
    | nil => simp at h
    | cons d r =>
      rw [val_cons, val_cons] at hv
      have := b.toNat_lt
      have := d.toNat_lt
      have e : b = d := UInt8.toNat_inj.1 (by omega)
      rw [e, ih r (by simpa using h) (by omega)]
theorem val_tail4 {n : Nat} (h : n < 4294967296) : val (tail4 n) = n := by
  unfold tail4
  rw [val_cons, val_cons, val_cons, val_cons]
  show (UInt8.ofNat n).toNat + 256 * ((UInt8.ofNat (n / 256)).toNat + 256 * ((UInt8.ofNat (n / 65536)).toNat + 256 * ((UInt8.ofNat (n / 16777216)).toNat + 256 * 0))) = n
  simp
  omega
/-- A byte of a number. -/
theorem val_xor (u : List UInt8) : ∀ (t : List UInt8) (E : Nat), u.length = t.length → E < 2 ^ (8 * t.length) →
    (∀ j (h : j < u.length) (h' : j < t.length), u[j].toNat = t[j].toNat ^^^ E / 2 ^ (8 * j) % 256) → val u = val t ^^^ E := by
  induction u with
  | nil =>
    intro t E hl hE _
    obtain rfl : t = [] := List.length_eq_zero_iff.1 hl.symm
    obtain rfl : E = 0 := by simpa using hE
    rfl
  | cons b u ih =>
    intro t E hl hE h
    cases t with
    | nil => simp at hl
    | cons d t =>
      have h0 := h 0 (by simp) (by simp)
      have hE' : E / 256 < 2 ^ (8 * t.length) := by
        rw [List.length_cons, Nat.mul_succ, Nat.pow_add] at hE
        exact Nat.div_lt_of_lt_mul (by rw [Nat.mul_comm]; exact hE)
      have := ih t (E / 256) (by simpa using hl) hE' (fun j h1 h2 => by
        have := h (j + 1) (by simpa using h1) (by simpa using h2)
        rw [List.getElem_cons_succ, List.getElem_cons_succ, Nat.mul_succ, show 8 * j + 8 = 8 + 8 * j from Nat.add_comm _ _, Nat.pow_add, ← Nat.div_div_eq_div_mul] at this
        exact this)
      show b.toNat ^^^ 256 * val u = d.toNat ^^^ 256 * val t ^^^ E
      have e1 : E = E % 256 ^^^ 256 * (E / 256) := by rw [xor_byte _ _ (Nat.mod_lt _ (by decide))]; omega
      have e2 : b.toNat = d.toNat ^^^ E % 256 := by simpa using h0
      have e3 : 256 * (val t ^^^ E / 256) = 256 * val t ^^^ 256 * (E / 256) := by
        refine Nat.eq_of_testBit_eq fun i => ?_
        rw [show 256 = 2 ^ 8 by decide]
        simp only [Nat.testBit_xor, Nat.testBit_two_pow_mul]
        by_cases hi : 8 ≤ i <;> simp [hi]
      conv => rhs; rw [e1]
      rw [this, e2, e3, x4]

/-- The residue: what is sealed is just what comes to it. -/
theorem sealed_iff (s d : List UInt8) (hd : d.length = 4) : d = tail4 (sum s) ↔ run 4294967295 (s ++ d) = stn 32 4294967295 := by
  rw [run_append, run_val d, hd]
  have hr : run 4294967295 s < 4294967296 := run_lt s (by decide)
  have hv : val d < 4294967296 := by have := val_lt d; rw [hd] at this; exact this
  have hs : sum s = run 4294967295 s ^^^ 4294967295 := by unfold sum more inv; rw [Nat.zero_xor]
  constructor
  · intro h
    rw [h, val_tail4 (sum_lt s), hs, xcan']
  · intro h
    have := stn_inj 32 (xlt hr hv) (by decide) h
    refine val_inj d _ hd ?_
    rw [val_tail4 (sum_lt s), hs]
    have h5 := xcan' (run 4294967295 s) (val d)
    rw [this] at h5
    exact h5.symm
theorem openL_ok (l : List UInt8) : (openL l).2 = 0 ↔ 4 ≤ l.length ∧ run 4294967295 l = stn 32 4294967295 := by
  unfold openL
  by_cases h : l.length < 4
  · rw [if_pos h]; constructor
    · intro h'; simp at h'
    · intro h'; omega
  · rw [if_neg h]
    have := sealed_iff (l.take (l.length - 4)) (l.drop (l.length - 4)) (by simp; omega)
    rw [List.take_append_drop] at this
    by_cases h2 : l.drop (l.length - 4) = tail4 (sum (l.take (l.length - 4)))
    · rw [if_pos h2]; exact ⟨fun _ => ⟨by omega, this.1 h2⟩, fun _ => rfl⟩
    · rw [if_neg h2]; simp; intro _ h3; exact h2 (this.2 h3)
theorem openL_seal (s : List UInt8) : openL (sealL s) = (s, 0) := by
  unfold openL sealL
  rw [List.length_append, tail4_len, if_neg (by omega), show s.length + 4 - 4 = s.length by omega, List.take_left', List.drop_left', if_pos rfl]
  · rfl
  · rfl
theorem openL_only {l t : List UInt8} (h : openL l = (t, 0)) : sealL t = l := by
  unfold openL at h
  split at h
  · simp at h
  · split at h
    · rename_i h2
      simp only [Prod.mk.injEq, and_true] at h
      subst h
      unfold sealL
      rw [← h2, List.take_append_drop]
    · simp at h
theorem openL_bad {l t : List UInt8} {e : Nat} (h : openL l = (t, e)) (he : e ≠ 0) : t = [] ∧ (e = 7 ∨ e = 15) := by
  unfold openL at h
  split at h
  · injection h with h1 h2; exact ⟨h1.symm, .inl h2.symm⟩
  · split at h
    · injection h with h1 h2; exact absurd h2.symm he
    · injection h with h1 h2; exact ⟨h1.symm, .inr h2.symm⟩

/-- Bits that are turned close together: 'n' of them from bit 'first' on. -/
def burst (bits first n : Nat) : Nat := bits % 2 ^ n * 2 ^ first
theorem burst_seen (t u : List UInt8) (bits first : Nat) (hb : bits < 4294967296) (hf : first ≤ 8 * t.length) (hl : u.length = t.length) (ht : (openL t).2 = 0)
    (h : ∀ j (h : j < u.length) (h' : j < t.length), u[j].toNat = t[j].toNat ^^^ burst bits first (8 * t.length - first) / 2 ^ (8 * j) % 256) : (openL u).2 = 0 ↔ u = t := by
  obtain ⟨h4, hr⟩ := (openL_ok t).1 ht
  have hm : bits % 2 ^ (8 * t.length - first) < 2 ^ (8 * t.length - first) := Nat.mod_lt _ (Nat.two_pow_pos _)
  have hE : burst bits first (8 * t.length - first) < 2 ^ (8 * t.length) := by
    unfold burst
    calc _ < 2 ^ (8 * t.length - first) * 2 ^ first := (Nat.mul_lt_mul_right (Nat.two_pow_pos _)).2 hm
      _ = 2 ^ (8 * t.length) := by rw [← Nat.pow_add]; congr 1; omega
  have hv := val_xor u t _ hl hE h
  constructor
  · intro hu
    obtain ⟨_, hru⟩ := (openL_ok u).1 hu
    rw [run_val, hl, hv, ← Nat.xor_assoc, stn_xor, ← run_val, hr] at hru
    have h0 : stn (8 * t.length) (burst bits first (8 * t.length - first)) = 0 := by
      have := congrArg (stn 32 4294967295 ^^^ ·) hru
      simpa only [xcan', Nat.xor_self] using this
    have h1 : stn (8 * t.length - first) (bits % 2 ^ (8 * t.length - first)) = 0 := by
      rw [show 8 * t.length = (8 * t.length - first) + first by omega, stn_add] at h0
      unfold burst at h0
      rw [show 8 * t.length - first + first - first = 8 * t.length - first by omega, stn_pow] at h0
      exact h0
    have h2 := stn_eq_zero _ (Nat.lt_of_le_of_lt (Nat.mod_le _ _) hb) h1
    refine val_inj u t hl ?_
    rw [hv]
    unfold burst
    rw [h2, Nat.zero_mul, Nat.xor_zero]
  · rintro rfl; exact ht

/-- Bit by bit, as the document tells it. -/
def bs (c E : Nat) : Nat → Nat
  | 0 => c
  | k + 1 => st (bs c E k ^^^ E / 2 ^ k % 2)
theorem half_split (x : Nat) : x = x % 2 ^^^ 2 * (x / 2) := by
  refine Nat.eq_of_testBit_eq fun i => ?_
  rw [Nat.testBit_xor]
  have h1 : (x % 2).testBit i = (decide (i < 1) && x.testBit i) := by rw [show x % 2 = x % 2 ^ 1 by rw [Nat.pow_one], Nat.testBit_mod_two_pow]
  have h2 : (2 * (x / 2)).testBit i = (decide (1 ≤ i) && x.testBit i) := by
    rw [show 2 * (x / 2) = 2 ^ 1 * (x / 2 ^ 1) by rw [Nat.pow_one], Nat.testBit_two_pow_mul, Nat.testBit_div_two_pow]
    by_cases hi : 1 ≤ i
    · simp [hi]
    · simp [hi]
  rw [h1, h2]
  by_cases hi : 1 ≤ i
  · simp [hi, show ¬ i < 1 by omega]
  · simp [hi, show i < 1 by omega]
theorem bs_closed (c E k : Nat) : bs c E k ^^^ E / 2 ^ k = stn k (c ^^^ E) := by
  induction k with
  | zero => show c ^^^ E / 1 = _; rw [Nat.div_one]; rfl
  | succ k ih =>
    rw [stn_succ, ← ih]
    have h : E / 2 ^ k = E / 2 ^ k % 2 ^^^ 2 * (E / 2 ^ (k + 1)) := by
      rw [Nat.pow_succ, ← Nat.div_div_eq_div_mul]; exact half_split _
    conv => rhs; rw [h]
    rw [← Nat.xor_assoc, st_xor _ (2 * _), st_two]; rfl
theorem bs_run (c : Nat) (l : List UInt8) : bs c (val l) (8 * l.length) = run c l := by
  have := bs_closed c (val l) (8 * l.length)
  rw [Nat.div_eq_of_lt (val_lt l), Nat.xor_zero, ← run_val] at this
  exact this
theorem bs_lt {c : Nat} (E k : Nat) (h : c < 4294967296) : bs c E k < 4294967296 := by
  induction k with
  | zero => exact h
  | succ k ih => exact st_lt (xlt ih (by omega))
theorem val_bit (l : List UInt8) : ∀ (j r : Nat) (h : j < l.length), r < 8 → val l / 2 ^ (8 * j + r) % 2 = l[j].toNat / 2 ^ r % 2 := by
  induction l with
  | nil => intro j r h; simp at h
  | cons b l ih =>
    intro j r h hr
    rw [val_cons]
    have hb := b.toNat_lt
    cases j with
    | zero =>
      rw [Nat.mul_zero, Nat.zero_add, List.getElem_cons_zero]
      rw [show 256 * val l = 2 ^ r * (2 ^ (8 - r) * val l) by rw [← Nat.mul_assoc, ← Nat.pow_add, show r + (8 - r) = 8 by omega]]
      rw [Nat.add_mul_div_left _ _ (Nat.two_pow_pos r), show 8 - r = (7 - r) + 1 by omega, Nat.pow_succ, Nat.mul_comm _ 2, Nat.mul_assoc]
      omega
    | succ j =>
      rw [List.getElem_cons_succ, ← ih j r (by simpa using h) hr, Nat.mul_succ, show 8 * j + 8 + r = 8 + (8 * j + r) by omega, Nat.pow_add, ← Nat.div_div_eq_div_mul]
      congr 2
      omega

/-- What becomes of a sum by what becomes of each of its bits. -/
def mulv (f : Nat → Nat) (x : Nat) : Nat → Nat
  | 0 => 0
  | k + 1 => if x / 2 ^ k % 2 = 1 then mulv f x k ^^^ f k else mulv f x k
theorem mod_split (x k : Nat) (h : x / 2 ^ k % 2 = 1) : x % 2 ^ (k + 1) = x % 2 ^ k ^^^ 2 ^ k := by
  have hb : x.testBit k = true := by rw [Nat.testBit_eq_decide_div_mod_eq, h]; rfl
  refine Nat.eq_of_testBit_eq fun i => ?_
  rw [Nat.testBit_xor, Nat.testBit_mod_two_pow, Nat.testBit_mod_two_pow, Nat.testBit_two_pow]
  by_cases h1 : i = k
  · subst h1; simp [hb]
  · by_cases h2 : i < k
    · simp [h2, show i < k + 1 by omega, show k ≠ i by omega]
    · simp [h2, show ¬ i < k + 1 by omega, show k ≠ i by omega]
theorem mod_skip (x k : Nat) (h : ¬ x / 2 ^ k % 2 = 1) : x % 2 ^ (k + 1) = x % 2 ^ k := by
  have h0 : x / 2 ^ k % 2 = 0 := by omega
  rw [Nat.mod_pow_succ, h0, Nat.mul_zero, Nat.add_zero]
theorem mulv_lin (m x k : Nat) : mulv (fun i => stn m (2 ^ i)) x k = stn m (x % 2 ^ k) := by
  induction k with
  | zero => rw [Nat.pow_zero, Nat.mod_one, stn_zero]; rfl
  | succ k ih =>
    rw [mulv]
    by_cases h : x / 2 ^ k % 2 = 1
    · rw [if_pos h, ih, mod_split x k h, stn_xor]
    · rw [if_neg h, ih, mod_skip x k h]
theorem mulv_all (m : Nat) {x : Nat} (h : x < 4294967296) : mulv (fun i => stn m (2 ^ i)) x 32 = stn m x := by
  rw [mulv_lin, Nat.mod_eq_of_lt (by exact h)]
theorem mulv_lt (f : Nat → Nat) (x k : Nat) (hf : ∀ i, i < 32 → f i < 4294967296) (hk : k ≤ 32) : mulv f x k < 4294967296 := by
  induction k with
  | zero => exact Nat.zero_lt_succ _
  | succ k ih =>
    rw [mulv]
    split
    · exact xlt (ih (by omega)) (hf k (by omega))
    · exact ih (by omega)
end Go.Proofs.YtjnbnkaocoamlabDoor
