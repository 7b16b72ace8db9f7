import Derived.Sort.Lot0
import Derived.Sort.LotA
import Derived.Shelf.GgSortMore.Stable
import Derived.Ground.GgtProg
import Derived.Test.YtddbpnplbcjpgaaGreatDoorProg
import Derived.WalkKit
import Derived.Handy
import Derived.Deep.Slices
import Derived.KernelRfl
import Derived.Deep.Fields
import Derived.ChangeSame
import Derived.SizedLaws
import Derived.Below
import Derived.ProofKit
import Derived.OpenShut
namespace Go.Proofs.YtddbpnplbcjpgaaGreatDoor
open Go.Sort
variable {α:Type} [Inhabited α] {lt:α→α→Bool}
structure SwR (l h a b n:Nat) (d R:Array α):Prop where
 perm:PermIn l h d R
 get:∀ x,R[x]! = if a≤x∧x < a + n then d[x - a + b]! else if b≤x∧x < b + n then d[x - b + a]! else d[x]!
theorem swR_zero (l h a b:Nat) (d:Array α):SwR l h a b 0 d d :=
 ⟨permIn_refl _ _ _,fun x=>by rw [if_neg (by omega),if_neg (by omega)]⟩
theorem swR_step {l h a b n:Nat} {d R:Array α} (s:SwR l h a b n d R) (hla:l≤a) (hab:a + (n + 1)≤b) (hbh:b + (n + 1)≤h) (hh:h≤d.size):SwR l h a b (n + 1) d (swp R (a + n) (b + n)):=by
 have hs:R.size=d.size:=s.perm.1
 refine ⟨permIn_trans _ _ _ _ _ s.perm (swp_permIn _ _ _ _ _ (by omega) (by omega) (by omega) (by omega) (by omega)),fun x=>?_⟩
 rw [swp_get R (by omega) (by omega) x]
 by_cases h1:x=b + n
 · subst h1
   rw [if_pos rfl,if_neg (by omega),if_pos (by omega),s.get,if_neg (by omega),if_neg (by omega)]
   congr 1;omega
 · rw [if_neg h1]
   by_cases h2:x=a + n
   · subst h2
     rw [if_pos rfl,if_pos (by omega),s.get,if_neg (by omega),if_neg (by omega)]
     congr 1;omega
   · rw [if_neg h2,s.get]
     by_cases h3:a≤x∧x < a + n
     · rw [if_pos h3,if_pos (c:=a≤x∧x < a + (n + 1)) (by omega)]
     · rw [if_neg h3,if_neg (c:=a≤x∧x < a + (n + 1)) (by omega)]
       by_cases h4:b≤x∧x < b + n
       · rw [if_pos h4,if_pos (c:=b≤x∧x < b + (n + 1)) (by omega)]
       · rw [if_neg h4,if_neg (c:=b≤x∧x < b + (n + 1)) (by omega)]
structure RotI (l h m i j:Nat) (d R:Array α):Prop where
 perm:PermIn l h d R
 get:∀ x,R[x]! = if m - i≤x∧x < m - i + j then d[x + i]! else if m - i + j≤x∧x < m + j then d[x - j]! else d[x]!
theorem rot_gt {l h m i j:Nat} {d R R':Array α} (hi:i≤m) (hj:0 < j) (hij:j < i) (s:SwR l h (m - i) m j d R) (r:RotI l h m (i - j) j R R'):RotI l h m i j d R':=by
 refine ⟨permIn_trans _ _ _ _ _ s.perm r.perm,fun x=>?_⟩
 rw [r.get x]
 by_cases h1:m - (i - j)≤x∧x < m - (i - j) + j
 · rw [if_pos h1,s.get,if_neg (by omega),if_pos (by omega),if_neg (by omega),if_pos (by omega)]
   congr 1;omega
 · rw [if_neg h1]
   by_cases h2:m - (i - j) + j≤x∧x < m + j
   · rw [if_pos h2,s.get,if_neg (by omega),if_neg (by omega),if_neg (by omega),if_pos (by omega)]
   · rw [if_neg h2,s.get]
     by_cases h3:m - i≤x∧x < m - i + j
     · rw [if_pos h3,if_pos h3]
       congr 1;omega
     · rw [if_neg h3,if_neg (by omega),if_neg h3,if_neg (by omega)]
theorem rot_lt {l h m i j:Nat} {d R R':Array α} (hi:i≤m) (hi0:0 < i) (hij:i < j) (s:SwR l h (m - i) (m + j - i) i d R) (r:RotI l h m i (j - i) R R'):RotI l h m i j d R':=by
 refine ⟨permIn_trans _ _ _ _ _ s.perm r.perm,fun x=>?_⟩
 rw [r.get x]
 by_cases h1:m - i≤x∧x < m - i + (j - i)
 · rw [if_pos h1,s.get,if_neg (by omega),if_neg (by omega),if_pos (by omega)]
 · rw [if_neg h1]
   by_cases h2:m - i + (j - i)≤x∧x < m + (j - i)
   · rw [if_pos h2,s.get,if_pos (by omega),if_pos (by omega)]
     congr 1;omega
   · rw [if_neg h2,s.get,if_neg (by omega)]
     by_cases h3:m + j - i≤x∧x < m + j - i + i
     · rw [if_pos h3,if_neg (by omega),if_pos (by omega)]
       congr 1;omega
     · rw [if_neg h3,if_neg (by omega),if_neg (by omega)]
theorem rot_eq {l h m i:Nat} {d R:Array α} (hi:i≤m) (s:SwR l h (m - i) m i d R):RotI l h m i i d R:=by
 refine ⟨s.perm,fun x=>?_⟩
 rw [s.get]
 by_cases h1:m - i≤x∧x < m - i + i
 · rw [if_pos h1,if_pos h1];congr 1;omega
 · rw [if_neg h1,if_neg h1]
   by_cases h2:m≤x∧x < m + i
   · rw [if_pos h2,if_pos (by omega)];congr 1;omega
   · rw [if_neg h2,if_neg (by omega)]
structure UpI (l h a i:Nat) (d R:Array α):Prop where
 perm:PermIn l h d R
 get:∀ x,R[x]! = if a≤x∧x < i then d[x + 1]! else if x=i then d[a]! else d[x]!
theorem up_zero (l h a:Nat) (d:Array α):UpI l h a a d d:=⟨permIn_refl _ _ _,fun x=>by
 rw [if_neg (by omega)]
 by_cases h:x=a
 · rw [if_pos h,h]
 · rw [if_neg h]⟩
theorem up_step {l h a i:Nat} {d R:Array α} (s:UpI l h a i d R) (hla:l≤a) (hai:a≤i) (hih:i + 1 < h) (hh:h≤d.size):UpI l h a (i + 1) d (swp R i (i + 1)):=by
 have hs:R.size=d.size:=s.perm.1
 refine ⟨permIn_trans _ _ _ _ _ s.perm (swp_permIn _ _ _ _ _ (by omega) (by omega) (by omega) (by omega) (by omega)),fun x=>?_⟩
 rw [swp_get R (by omega) (by omega) x]
 by_cases h1:x=i + 1
 · rw [if_pos h1,if_neg (by omega),if_pos h1,s.get,if_neg (by omega),if_pos rfl]
 · rw [if_neg h1]
   by_cases h2:x=i
   · subst h2
     rw [if_pos rfl,if_pos (by omega),s.get,if_neg (by omega),if_neg (by omega)]
   · rw [if_neg h2,s.get]
     by_cases h3:a≤x∧x < i
     · rw [if_pos h3,if_pos (by omega)]
     · rw [if_neg h3,if_neg h2,if_neg (by omega),if_neg h1]
structure DnI (l h m i:Nat) (d R:Array α):Prop where
 perm:PermIn l h d R
 get:∀ x,R[x]! = if i < x∧x≤m then d[x - 1]! else if x=i then d[m]! else d[x]!
theorem dn_zero (l h m:Nat) (d:Array α):DnI l h m m d d:=⟨permIn_refl _ _ _,fun x=>by
 rw [if_neg (by omega)]
 by_cases h:x=m
 · rw [if_pos h,h]
 · rw [if_neg h]⟩
theorem dn_step {l h m i:Nat} {d R:Array α} (s:DnI l h m (i + 1) d R) (hli:l≤i) (him:i + 1≤m) (hmh:m < h) (hh:h≤d.size):DnI l h m i d (swp R (i + 1) i):=by
 have hs:R.size=d.size:=s.perm.1
 refine ⟨permIn_trans _ _ _ _ _ s.perm (swp_permIn _ _ _ _ _ (by omega) (by omega) (by omega) (by omega) (by omega)),fun x=>?_⟩
 rw [swp_get R (by omega) (by omega) x]
 by_cases h1:x=i
 · rw [if_pos h1,if_neg (by omega),if_pos h1,s.get,if_neg (by omega),if_pos rfl]
 · rw [if_neg h1]
   by_cases h2:x=i + 1
   · subst h2
     rw [if_pos rfl,if_pos (by omega),s.get,if_neg (by omega),if_neg (by omega)]
     congr 1
   · rw [if_neg h2,s.get]
     by_cases h3:i + 1 < x∧x≤m
     · rw [if_pos h3,if_pos (by omega)]
     · rw [if_neg h3,if_neg h2,if_neg (by omega),if_neg h1]
theorem sortedIn_le (hS:SWO lt) {a b:Nat} {d:Array α} (h:SortedIn lt a b d) {x y:Nat} (hax:a≤x) (hxy:x≤y) (hyb:y < b):lt d[y]! d[x]! = false:=by
 rcases Nat.lt_or_eq_of_le hxy with h1 | h1
 · exact h x y hax h1 hyb
 · rw [h1];exact hS.irrefl _
theorem up_sorted (hS:SWO lt) {l h a b i:Nat} {d R:Array α} (s:UpI l h a (i - 1) d R) (hi:a + 1≤i) (hib:i≤b) (hd:SortedIn lt (a + 1) b d)
   (h1:∀ x,a + 1≤x→x < i→lt d[x]! d[a]! = true) (h2:∀ x,i≤x→x < b→lt d[x]! d[a]! = false):SortedIn lt a b R:=by
 intro x y hax hxy hyb
 rw [s.get x,s.get y]
 by_cases c1:a≤y∧y < i - 1
 · rw [if_pos c1,if_pos (by omega)]
   exact hd (x + 1) (y + 1) (by omega) (by omega) (by omega)
 · rw [if_neg c1]
   by_cases c2:y=i - 1
   · rw [if_pos c2,if_pos (by omega)]
     exact hS.asymmA (h1 (x + 1) (by omega) (by omega))
   · rw [if_neg c2]
     by_cases c3:a≤x∧x < i - 1
     · rw [if_pos c3]
       exact hd (x + 1) y (by omega) (by omega) hyb
     · rw [if_neg c3]
       by_cases c4:x=i - 1
       · rw [if_pos c4]
         exact h2 y (by omega) hyb
       · rw [if_neg c4]
         exact hd x y (by omega) hxy hyb
theorem dn_sorted (hS:SWO lt) {l h a m i:Nat} {d R:Array α} (s:DnI l h m i d R) (hi:a≤i) (him:i≤m) (hd:SortedIn lt a m d)
   (h1:∀ x,a≤x→x < i→lt d[m]! d[x]! = false) (h2:∀ x,i≤x→x < m→lt d[m]! d[x]! = true):SortedIn lt a (m + 1) R:=by
 intro x y hax hxy hyb
 rw [s.get x,s.get y]
 by_cases c1:i < y∧y≤m
 · rw [if_pos c1]
   by_cases c2:i < x∧x≤m
   · rw [if_pos c2]
     exact hd (x - 1) (y - 1) (by omega) (by omega) (by omega)
   · rw [if_neg c2]
     by_cases c3:x=i
     · rw [if_pos c3]
       exact hS.asymmA (h2 (y - 1) (by omega) (by omega))
     · rw [if_neg c3]
       exact sortedIn_le hS hd hax (by omega) (by omega)
 · rw [if_neg c1]
   have gx:(if i < x∧x≤m then d[x - 1]! else if x=i then d[m]! else d[x]!)=d[x]! := by rw [if_neg (by omega),if_neg (by omega)]
   rw [gx]
   by_cases c2:y=i
   · rw [if_pos c2]
     exact h1 x hax (by omega)
   · rw [if_neg c2]
     exact hd x y hax hxy (by omega)
theorem sym_parts {l h a m b mid s e:Nat} {d R:Array α} (r:RotI l h m (m - s) (e - m) d R) (ha:a≤s) (hsm:s≤m) (hme:m≤e) (heb:e≤b) (hmid:mid=s + (e - m))
   (h1:SortedIn lt a m d) (h2:SortedIn lt m b d) (x1:∀ x y,a≤x→x < s→e≤y→y < b→lt d[y]! d[x]! = false) (x2:∀ x y,m≤x→x < e→s≤y→y < m→lt d[y]! d[x]! = false) :
   SortedIn lt a s R∧SortedIn lt s mid R∧SortedIn lt mid e R∧SortedIn lt e b R∧∀ x y,a≤x→x < mid→mid≤y→y < b→lt R[y]! R[x]! = false:=by
 have g:∀ x,R[x]! = if s≤x∧x < mid then d[x + (m - s)]! else if mid≤x∧x < e then d[x - (e - m)]! else d[x]! := fun x=>by
   rw [r.get x,show m - (m - s)=s by omega,←hmid,show m + (e - m)=e by omega]
 have g0:∀ x,x < s→R[x]! = d[x]! := fun x hx=>by rw [g x,if_neg (by omega),if_neg (by omega)]
 have g1:∀ x,s≤x→x < mid→R[x]! = d[x + (m - s)]! := fun x hx hy=>by rw [g x,if_pos ⟨hx,hy⟩]
 have g2:∀ x,mid≤x→x < e→R[x]! = d[x - (e - m)]! := fun x hx hy=>by rw [g x,if_neg (by omega),if_pos ⟨hx,hy⟩]
 have g3:∀ x,e≤x→R[x]! = d[x]! := fun x hx=>by rw [g x,if_neg (by omega),if_neg (by omega)]
 refine ⟨fun x y hx hxy hy=>?_,fun x y hx hxy hy=>?_,fun x y hx hxy hy=>?_,fun x y hx hxy hy=>?_,fun x y hx hxm hy hyb=>?_⟩
 · rw [g0 x (by omega),g0 y hy]
   exact h1 x y hx hxy (by omega)
 · rw [g1 x hx (by omega),g1 y (by omega) hy]
   exact h2 _ _ (by omega) (by omega) (by omega)
 · rw [g2 x hx (by omega),g2 y (by omega) hy]
   exact h1 _ _ (by omega) (by omega) (by omega)
 · rw [g3 x hx,g3 y (by omega)]
   exact h2 x y (by omega) hxy hy
 · by_cases c1:s≤x
   · rw [g1 x c1 hxm]
     by_cases c2:y < e
     · rw [g2 y hy c2]
       exact x2 _ _ (by omega) (by omega) (by omega) (by omega)
     · rw [g3 y (by omega)]
       exact h2 _ _ (by omega) (by omega) hyb
   · rw [g0 x (by omega)]
     by_cases c2:y < e
     · rw [g2 y hy c2]
       exact h1 _ _ hx (by omega) (by omega)
     · rw [g3 y (by omega)]
       exact x1 x y hx (by omega) (by omega) hyb
theorem rot_none (l h m i j:Nat) (d:Array α) (hi:i≤m) (h0:i=0∨j=0):RotI l h m i j d d:=by
 refine ⟨permIn_refl _ _ _,fun x=>?_⟩
 by_cases h1:m - i≤x∧x < m - i + j
 · rw [if_pos h1];congr 1;omega
 · rw [if_neg h1]
   by_cases h2:m - i + j≤x∧x < m + j
   · rw [if_pos h2];congr 1;omega
   · rw [if_neg h2]
theorem sorted_join {a mid b:Nat} {d:Array α} (h1:SortedIn lt a mid d) (h2:SortedIn lt mid b d) (hx:∀ x y,a≤x→x < mid→mid≤y→y < b→lt d[y]! d[x]! = false):SortedIn lt a b d:=by
 intro x y hax hxy hyb
 by_cases c1:y < mid
 · exact h1 x y hax hxy c1
 · by_cases c2:x < mid
   · exact hx x y hax c2 (by omega) hyb
   · exact h2 x y (by omega) hxy hyb
theorem cross_perm {a mid b:Nat} {d d1 d2:Array α} (hb:b≤d.size) (h1:PermIn a mid d d1) (h2:PermIn mid b d1 d2) (hx:∀ x y,a≤x→x < mid→mid≤y→y < b→lt d[y]! d[x]! = false) :
   ∀ x y,a≤x→x < mid→mid≤y→y < b→lt d2[y]! d2[x]! = false:=by
 intro x y hax hxm hmy hyb
 have hb1:b≤d1.size:=by rw [h1.1];exact hb
 have hd2x:d2[x]! = d1[x]! := h2.2.1 x (.inl hxm)
 rw [hd2x]
 refine permIn_all d1 d2 mid b (fun v=>lt v d1[x]! = false) hb1 h2 (fun z hz hzb=>?_) y hmy hyb
 have hd1z:d1[z]! = d[z]! := h1.2.1 z (.inr hz)
 rw [hd1z]
 exact permIn_all d d1 a mid (fun v=>lt d[z]! v=false) (by omega) h1 (fun w hw hwm=>hx w z hw hwm hz hzb) x hax hxm
theorem sortedIn_keep {a b:Nat} {d d':Array α} (h:SortedIn lt a b d) (e:∀ x,a≤x→x < b→d'[x]! = d[x]!):SortedIn lt a b d':=by
 intro x y hax hxy hyb
 rw [e x hax (by omega),e y (by omega) hyb]
 exact h x y hax hxy hyb
theorem sym_cross (hS:SWO lt) {a m b n s lo hi:Nat} {d:Array α} (h1:SortedIn lt a m d) (h2:SortedIn lt m b d) (hlo:a≤lo) (hls:lo≤s) (hsh:s≤hi) (hhm:hi≤m) (hnh:m + hi≤n) (hnl:n≤b + lo)
   (el:lo=a∨n=b + lo) (eh:hi=m∨n=m + hi) (f1:s=lo∨lt d[n - s]! d[s - 1]! = false) (f2:s=hi∨lt d[n - 1 - s]! d[s]! = true) :
   (∀ x y,a≤x→x < s→n - s≤y→y < b→lt d[y]! d[x]! = false)∧(∀ x y,m≤x→x < n - s→s≤y→y < m→lt d[y]! d[x]! = false):=by
 refine ⟨fun x y hx hxs hy hyb=>?_,fun x y hx hxe hy hym=>?_⟩
 · rcases f1 with f1 | f1
   · omega
   · exact hS.ntrans _ _ _ (sortedIn_le hS h2 (by omega) hy hyb) (hS.ntrans _ _ _ f1 (sortedIn_le hS h1 hx (by omega) (by omega)))
 · rcases f2 with f2 | f2
   · omega
   · exact hS.ntrans _ _ _ (sortedIn_le hS h1 (by omega) hy hym) (hS.ntrans _ _ _ (hS.asymmA f2) (sortedIn_le hS h2 hx (by omega) (by omega)))
theorem sym_end {a m b mid s e:Nat} {d d1 d2 d3:Array α} (r:RotI s e m (m - s) (e - m) d d1) (ha:a≤s) (hsm:s≤m) (hme:m≤e) (heb:e≤b) (hmid:mid=s + (e - m)) (hb:b≤d.size)
   (h1:SortedIn lt a m d) (h2:SortedIn lt m b d) (x1:∀ x y,a≤x→x < s→e≤y→y < b→lt d[y]! d[x]! = false) (x2:∀ x y,m≤x→x < e→s≤y→y < m→lt d[y]! d[x]! = false)
   (hL:(d2=d1∧(s=a∨s=mid))∨(PermIn a mid d1 d2∧SortedIn lt a mid d2)) (hR:(d3=d2∧(e=mid∨e=b))∨(PermIn mid b d2 d3∧SortedIn lt mid b d3)) :
   PermIn a b d d3∧SortedIn lt a b d3:=by
 obtain ⟨p1,p2,p3,p4,p5⟩:=sym_parts r ha hsm hme heb hmid h1 h2 x1 x2
 have q1:PermIn a b d d1:=permIn_mono d d1 s e a b ha heb hb r.perm
 have z1:d1.size=d.size:=q1.1
 have g2:PermIn a mid d1 d2∧SortedIn lt a mid d2:=by
   rcases hL with ⟨rfl,hs⟩ | h
   · refine ⟨permIn_refl _ _ _,?_⟩
     rcases hs with rfl | rfl
     · exact p2
     · exact p1
   · exact h
 have z2:d2.size=d.size:=g2.1.1.trans z1
 have k3:SortedIn lt mid e d2:=sortedIn_keep p3 (fun x hx _=>g2.1.2.1 x (.inr hx))
 have k4:SortedIn lt e b d2:=sortedIn_keep p4 (fun x hx _=>g2.1.2.1 x (.inr (by omega)))
 have g3:PermIn mid b d2 d3∧SortedIn lt mid b d3:=by
   rcases hR with ⟨rfl,hs⟩ | h
   · refine ⟨permIn_refl _ _ _,?_⟩
     rcases hs with rfl | rfl
     · exact k4
     · exact k3
   · exact h
 refine ⟨permIn_trans _ _ _ _ _ q1 (permIn_trans _ _ _ _ _ (permIn_mono d1 d2 a mid a b (Nat.le_refl _) (by omega) (by omega) g2.1) (permIn_mono d2 d3 mid b a b (by omega) (Nat.le_refl _) (by omega) g3.1)),?_⟩
 refine sorted_join (sortedIn_keep g2.2 (fun x _ hx=>g3.1.2.1 x (.inl hx))) g3.2 ?_
 exact cross_perm (by omega) g2.1 g3.1 p5
theorem sym_right {a mid e b:Nat} {d1 d2:Array α} (hme:mid≤e) (p3:SortedIn lt mid e d1) (p4:SortedIn lt e b d1) (h:PermIn a mid d1 d2):SortedIn lt mid e d2∧SortedIn lt e b d2 :=
 ⟨sortedIn_keep p3 (fun x hx _=>h.2.1 x (.inr hx)),sortedIn_keep p4 (fun x hx _=>h.2.1 x (.inr (by omega)))⟩
theorem find_up (hS:SWO lt) {m b i j h:Nat} {d:Array α} {v:α} (hd:SortedIn lt m b d) (hmi:m≤i) (hih:i≤h) (hhj:h < j) (hjb:j≤b) (f1:∀ x,m≤x→x < i→lt d[x]! v=true) (f2:∀ x,j≤x→x < b→lt d[x]! v=false) :
   (lt d[h]! v=true→∀ x,m≤x→x < h + 1→lt d[x]! v=true)∧(lt d[h]! v=false→∀ x,h≤x→x < b→lt d[x]! v=false):=by
 refine ⟨fun hl x hx hxh=>?_,fun hl x hx hxb=>?_⟩
 · by_cases c:x < i
   · exact f1 x hx c
   · cases hv:lt d[x]! v with
     | true=>rfl
     | false=>rw [hS.ntrans _ _ _ (sortedIn_le hS hd hx (by omega) (by omega)) hv] at hl;cases hl
 · by_cases c:j≤x
   · exact f2 x c hxb
   · exact hS.ntrans _ _ _ (sortedIn_le hS hd (by omega) hx hxb) hl
theorem find_dn (hS:SWO lt) {a m i j h:Nat} {d:Array α} {v:α} (hd:SortedIn lt a m d) (hai:a≤i) (hih:i≤h) (hhj:h < j) (hjm:j≤m) (f1:∀ x,a≤x→x < i→lt v d[x]! = false) (f2:∀ x,j≤x→x < m→lt v d[x]! = true) :
   (lt v d[h]! = false→∀ x,a≤x→x < h + 1→lt v d[x]! = false)∧(lt v d[h]! = true→∀ x,h≤x→x < m→lt v d[x]! = true):=by
 refine ⟨fun hl x hx hxh=>?_,fun hl x hx hxm=>?_⟩
 · by_cases c:x < i
   · exact f1 x hx c
   · exact hS.ntrans _ _ _ hl (sortedIn_le hS hd hx (by omega) (by omega))
 · by_cases c:j≤x
   · exact f2 x c hxm
   · cases hv:lt v d[x]! with
     | true=>rfl
     | false=>rw [hS.ntrans _ _ _ hv (sortedIn_le hS hd (by omega) hx hxm)] at hl;cases hl
def BlkA (lt:α→α→Bool) (C q0:Nat) (d:Array α):Prop:=∀ q,q < q0→SortedIn lt (q * C) (q * C + C) d
def BlkB (lt:α→α→Bool) (B q1 n:Nat) (d:Array α):Prop:=∀ q,q1≤q→SortedIn lt (q * B) (min (q * B + B) n) d
theorem mul_step {q q0 C:Nat} (h:q < q0):q * C + C≤q0 * C:=by
 rw [←Nat.succ_mul];exact Nat.mul_le_mul_right _ h
theorem sortedIn_sub {a b a' b':Nat} {d:Array α} (h:SortedIn lt a b d) (ha:a≤a') (hb:b'≤b):SortedIn lt a' b' d:=fun x y hx hxy hy=>h x y (by omega) hxy (by omega)
theorem blkA_step {C q0:Nat} {d d':Array α} (h:BlkA lt C q0 d) (hp:PermIn (q0 * C) (q0 * C + C) d d') (hs:SortedIn lt (q0 * C) (q0 * C + C) d'):BlkA lt C (q0 + 1) d':=by
 intro q hq
 rcases Nat.lt_or_eq_of_le (Nat.le_of_lt_succ hq) with h1 | h1
 · have:=mul_step (C:=C) h1
   exact sortedIn_keep (h q h1) (fun x _ hx=>hp.2.1 x (.inl (by omega)))
 · rw [h1];exact hs
theorem blkA_end {C q0 n:Nat} {d d':Array α} (h:BlkA lt C q0 d) (hn:n < q0 * C + C) (hp:PermIn (q0 * C) n d d') (hs:SortedIn lt (q0 * C) n d'):BlkB lt C 0 n d':=by
 intro q _
 rcases Nat.lt_trichotomy q q0 with h1 | h1 | h1
 · have:=mul_step (C:=C) h1
   exact sortedIn_sub (sortedIn_keep (h q h1) (fun x _ hx=>hp.2.1 x (.inl (by omega)))) (Nat.le_refl _) (Nat.min_le_left _ _)
 · rw [h1];exact sortedIn_sub hs (Nat.le_refl _) (Nat.min_le_right _ _)
 · have h2:=mul_step (C:=C) h1
   have h3:=Nat.min_le_right (q * C + C) n
   intro x y hx hxy hy
   omega
theorem blk_two (q0 B:Nat):(2 * q0) * B=q0 * (2 * B)∧(2 * q0 + 1) * B=q0 * (2 * B) + B:=by
 have h:(2 * q0) * B=q0 * (2 * B):=by rw [Nat.mul_comm 2 q0,Nat.mul_assoc]
 exact ⟨h,by rw [Nat.succ_mul,h]⟩
theorem blkB_next {B q0 n:Nat} {d:Array α} (h:BlkB lt B (2 * q0) n d):SortedIn lt (q0 * (2 * B)) (min (q0 * (2 * B) + B) n) d∧SortedIn lt (q0 * (2 * B) + B) (min (q0 * (2 * B) + B + B) n) d:=by
 have h1:=h (2 * q0) (Nat.le_refl _)
 have h2:=h (2 * q0 + 1) (Nat.le_succ _)
 rw [(blk_two q0 B).1] at h1
 rw [(blk_two q0 B).2] at h2
 exact ⟨h1,h2⟩
theorem blkB_step {B q0 n:Nat} {d d':Array α} (h:BlkB lt B (2 * q0) n d) (hp:PermIn (q0 * (2 * B)) (q0 * (2 * B) + 2 * B) d d'):BlkB lt B (2 * (q0 + 1)) n d':=by
 intro q hq
 have h2:2 * (q0 + 1) * B≤q * B:=Nat.mul_le_mul_right _ hq
 have h3:2 * (q0 + 1) * B=q0 * (2 * B) + 2 * B:=by rw [(blk_two (q0 + 1) B).1,Nat.succ_mul]
 exact sortedIn_keep (h q (by omega)) (fun x hx _=>hp.2.1 x (.inr (by omega)))
theorem blkB_all {B n:Nat} {d:Array α} (h:BlkB lt B 0 n d) (hn:n≤B):SortedIn lt 0 n d:=by
 have h1:=h 0 (Nat.le_refl _)
 rw [Nat.zero_mul,Nat.zero_add,Nat.min_eq_right hn] at h1
 exact h1
end Go.Proofs.YtddbpnplbcjpgaaGreatDoor
namespace Go.Proofs
open Go.Shelf
def Tryz.stabC_ren:Go.Shelf.Ren:=⟨fun | 8=>49 | 13=>77 | 14=>78 | 16=>80 | 15=>79 | 29=>106 | 30=>107 | 42=>124 | 49=>150 | n=>n,fun | 20=>20 | 26=>101 | 36=>141 | 0=>0 | 38=>143 | 42=>147 | 3=>3 | 4=>4 | 47=>176 | 17=>17 | 33=>138 | 34=>139 | 89=>249 | 12=>12 | 56=>202 | 82=>244 | 5=>5 | 83=>157 | 84=>245 | 85=>179 | 86=>246 | 87=>247 | n=>n,fun | n=>n⟩
theorem Tryz.stabC:Go.Proofs.LaysGt.n8 Tryz.prog Tryz.stabC_ren:={
 mixed:=by kernel_rfl
 f8:=Tryz.func49.trans (congrArg some (by kernel_rfl))
 f13:=Tryz.func77.trans (congrArg some (by kernel_rfl))
 f14:=Tryz.func78.trans (congrArg some (by kernel_rfl))
 f15:=Tryz.func79.trans (congrArg some (by kernel_rfl))
 f16:=Tryz.func80.trans (congrArg some (by kernel_rfl))
 f29:=Tryz.func106.trans (congrArg some (by kernel_rfl))
 f30:=Tryz.func107.trans (congrArg some (by kernel_rfl))
 f42:=Tryz.func124.trans (congrArg some (by kernel_rfl))
 f49:=Tryz.func150.trans (congrArg some (by kernel_rfl))
 t0:=Tryz.underlying0
 a0:=Tryz.isAgg0
 z0:=Tryz.sizeOf0
 v0:=Tryz.zeroValue0
 i0:=by kernel_rfl
 t3:=Tryz.underlying3
 a3:=Tryz.isAgg3
 z3:=Tryz.sizeOf3
 v3:=Tryz.zeroValue3
 i3:=by kernel_rfl
 t4:=Tryz.underlying4
 a4:=Tryz.isAgg4
 z4:=Tryz.sizeOf4
 v4:=Tryz.zeroValue4
 i4:=by kernel_rfl
 t5:=Tryz.underlying5
 a5:=Tryz.isAgg5
 z5:=Tryz.sizeOf5
 v5:=Tryz.zeroValue5
 i5:=by kernel_rfl
 t12:=Tryz.underlying12
 a12:=Tryz.isAgg12
 z12:=Tryz.sizeOf12
 v12:=Tryz.zeroValue12
 i12:=by kernel_rfl
 t17:=Tryz.underlying17
 a17:=Tryz.isAgg17
 z17:=Tryz.sizeOf17
 v17:=Tryz.zeroValue17
 i17:=by kernel_rfl
 t20:=Tryz.underlying20
 a20:=Tryz.isAgg20
 z20:=Tryz.sizeOf20
 v20:=Tryz.zeroValue20
 i20:=by kernel_rfl
 t26:=Tryz.underlying101
 a26:=Tryz.isAgg101
 z26:=Tryz.sizeOf101
 v26:=Tryz.zeroValue101
 i26:=by kernel_rfl
 t33:=Tryz.underlying138
 a33:=Tryz.isAgg138
 z33:=Tryz.sizeOf138
 v33:=Tryz.zeroValue138
 i33:=by kernel_rfl
 t34:=Tryz.underlying139
 a34:=Tryz.isAgg139
 z34:=Tryz.sizeOf139
 v34:=Tryz.zeroValue139
 i34:=by kernel_rfl
 t36:=Tryz.underlying141
 a36:=Tryz.isAgg141
 z36:=Tryz.sizeOf141
 v36:=Tryz.zeroValue141
 i36:=by kernel_rfl
 t38:=Tryz.underlying143
 a38:=Tryz.isAgg143
 z38:=Tryz.sizeOf143
 v38:=Tryz.zeroValue143
 i38:=by kernel_rfl
 t42:=Tryz.underlying147
 a42:=Tryz.isAgg147
 z42:=Tryz.sizeOf147
 v42:=Tryz.zeroValue147
 i42:=by kernel_rfl
 t47:=Tryz.underlying176
 a47:=Tryz.isAgg176
 z47:=Tryz.sizeOf176
 v47:=Tryz.zeroValue176
 i47:=by kernel_rfl
 t56:=Tryz.underlying202
 a56:=Tryz.isAgg202
 z56:=Tryz.sizeOf202
 v56:=Tryz.zeroValue202
 i56:=by kernel_rfl
 t82:=Tryz.underlying244
 a82:=Tryz.isAgg244
 z82:=Tryz.sizeOf244
 v82:=Tryz.zeroValue244
 i82:=by kernel_rfl
 t83:=Tryz.underlying157
 a83:=Tryz.isAgg157
 z83:=Tryz.sizeOf157
 v83:=Tryz.zeroValue157
 i83:=by kernel_rfl
 t84:=Tryz.underlying245
 a84:=Tryz.isAgg245
 z84:=Tryz.sizeOf245
 v84:=Tryz.zeroValue245
 i84:=by kernel_rfl
 t85:=Tryz.underlying179
 a85:=Tryz.isAgg179
 z85:=Tryz.sizeOf179
 v85:=Tryz.zeroValue179
 i85:=by kernel_rfl
 t86:=Tryz.underlying246
 a86:=Tryz.isAgg246
 z86:=Tryz.sizeOf246
 v86:=Tryz.zeroValue246
 i86:=by kernel_rfl
 t87:=Tryz.underlying247
 a87:=Tryz.isAgg247
 z87:=Tryz.sizeOf247
 v87:=Tryz.zeroValue247
 i87:=by kernel_rfl
 t89:=Tryz.underlying249
 a89:=Tryz.isAgg249
 z89:=Tryz.sizeOf249
 v89:=Tryz.zeroValue249
 i89:=by kernel_rfl }
end Go.Proofs
namespace Go.Proofs.YtddbpnplbcjpgaaGreatDoor
structure Ent where
 rep:Int
 time:Int
deriving DecidableEq
def wrE (e:Ent) (last:Int):Nat:=if e.rep < 0∨200 < e.rep∨e.time < 1∨1099511627776 < e.time then 2 else if e.rep≤last then 10 else 0
def vr:List Ent→Nat→Int→Nat×Int
 | [],_,_=>(0,-1)
 | e :: r,i,last=>if wrE e last≠0 then (wrE e last,i) else vr r (i + 1) e.rep
def vrightF (l:List Ent):Nat×Int:=if 16 < l.length then (4,-1) else vr l 0 (-1)
theorem wrE_range {e:Ent} {last:Int} (h:e.rep < 0∨200 < e.rep∨e.time < 1∨1099511627776 < e.time):wrE e last=2:=by unfold wrE;rw [if_pos h]
theorem wrE_order {e:Ent} {last:Int} (h:¬ (e.rep < 0∨200 < e.rep∨e.time < 1∨1099511627776 < e.time)) (h2:e.rep≤last):wrE e last=10:=by unfold wrE;rw [if_neg h,if_pos h2]
theorem wrE_fine {e:Ent} {last:Int} (h:¬ (e.rep < 0∨200 < e.rep∨e.time < 1∨1099511627776 < e.time)) (h2:¬ e.rep≤last):wrE e last=0:=by unfold wrE;rw [if_neg h,if_neg h2]
theorem wrE_ok {e:Ent} {last:Int}:wrE e last=0↔0≤e.rep∧e.rep≤200∧1≤e.time∧e.time≤1099511627776∧last < e.rep:=by
 unfold wrE;split
 · constructor
   · intro h;omega
   · intro h;omega
 · split
   · constructor
     · intro h;omega
     · intro h;omega
   · constructor
     · intro _;omega
     · intro _;rfl
theorem vr_bad {e:Ent} {r:List Ent} {i:Nat} {last:Int} (h:wrE e last≠0):vr (e :: r) i last=(wrE e last,(i:Int)):=by rw [vr,if_pos h]
theorem vr_good {e:Ent} {r:List Ent} {i:Nat} {last:Int} (h:wrE e last=0):vr (e :: r) i last=vr r (i + 1) e.rep:=by rw [vr,if_neg (by simpa using h)]
def okV:Int→List Ent→Prop
 | _,[]=>True
 | last,e :: r=>wrE e last=0∧okV e.rep r
def rightV (l:List Ent):Prop:=l.length≤16∧okV (-1) l
theorem vr_ok (l:List Ent):∀ i last,(vr l i last).1=0↔okV last l:=by
 induction l with
 | nil=>intro i last;simp [vr,okV]
 | cons e r ih =>
   intro i last
   by_cases h:wrE e last=0
   · rw [vr_good h,ih];exact ⟨fun h2=>⟨h,h2⟩,fun h2=>h2.2⟩
   · rw [vr_bad h];exact ⟨fun h2=>absurd h2 h,fun h2=>absurd h2.1 h⟩
theorem vright_ok (l:List Ent):(vrightF l).1=0↔rightV l:=by
 unfold vrightF rightV
 split
 · constructor
   · intro h;cases h
   · intro h;omega
 · rw [vr_ok];exact ⟨fun h=>⟨by omega,h⟩,fun h=>h.2⟩
theorem vr_good_place (l:List Ent):∀ i last,(vr l i last).1=0→vr l i last=(0,-1):=by
 induction l with
 | nil=>intro i last _;rfl
 | cons e r ih =>
   intro i last h
   by_cases hw:wrE e last=0
   · rw [vr_good hw] at h ⊢;exact ih _ _ h
   · rw [vr_bad hw] at h;exact absurd h hw
theorem vright_good {l:List Ent} (h:(vrightF l).1=0):vrightF l=(0,-1):=by
 unfold vrightF at h ⊢
 split
 · rename_i h2;rw [if_pos h2] at h;cases h
 · rename_i h2;rw [if_neg h2] at h;exact vr_good_place _ _ _ h
theorem vright_of {l:List Ent} (h:rightV l):vrightF l=(0,-1):=vright_good ((vright_ok l).2 h)
theorem okV_mem {l:List Ent}:∀ {last:Int},okV last l→∀ e∈l,0≤e.rep∧e.rep≤200∧1≤e.time∧e.time≤1099511627776∧last < e.rep:=by
 induction l with
 | nil=>intro last _ e h;cases h
 | cons d r ih =>
   intro last h e he
   obtain ⟨h1,h2⟩:=h
   rw [wrE_ok] at h1
   rcases List.mem_cons.1 he with rfl | he
   · exact h1
   · have:=ih h2 e he;omega
theorem okV_snoc {l:List Ent} {e:Ent}:∀ {last:Int},okV last l→(∀ d∈l,d.rep < e.rep)→wrE e last=0→okV last (l ++ [e]):=by
 induction l with
 | nil=>intro last _ _ h;exact ⟨h,trivial⟩
 | cons d r ih =>
   intro last h hd he
   refine ⟨h.1,ih h.2 (fun x hx=>hd x (List.mem_cons_of_mem _ hx)) ?_⟩
   have:=hd d List.mem_cons_self
   rw [wrE_ok] at he ⊢;omega
def ofF:List Ent→Int→Int
 | [],_=>0
 | e :: r,x=>if e.rep=x then e.time else ofF r x
theorem ofF_at {e:Ent} {r:List Ent} {x:Int} (h:e.rep=x):ofF (e :: r) x=e.time:=by rw [ofF,if_pos h]
theorem ofF_on {e:Ent} {r:List Ent} {x:Int} (h:e.rep≠x):ofF (e :: r) x=ofF r x:=by rw [ofF,if_neg h]
theorem ofF_none {l:List Ent} {x:Int} (h:∀ e∈l,e.rep≠x):ofF l x=0:=by
 induction l with
 | nil=>rfl
 | cons e r ih=>rw [ofF_on (h e List.mem_cons_self)];exact ih fun d hd=>h d (List.mem_cons_of_mem _ hd)
theorem ofF_snoc {l:List Ent} {e:Ent} {x:Int} (h:∀ d∈l,d.rep≠e.rep):ofF (l ++ [e]) x=if e.rep=x then e.time else ofF l x:=by
 induction l with
 | nil=>simp [ofF]
 | cons d r ih =>
   have h1:=h d List.mem_cons_self
   have ih':=ih fun y hy=>h y (List.mem_cons_of_mem _ hy)
   rw [List.cons_append]
   by_cases hd:d.rep=x
   · rw [ofF_at hd,if_neg (by omega),ofF_at hd]
   · rw [ofF_on hd,ih',ofF_on hd]
theorem ofF_bd {l:List Ent} {last:Int} (h:okV last l) (x:Int):0≤ofF l x∧ofF l x≤1099511627776:=by
 induction l generalizing last with
 | nil=>exact ⟨Int.le_refl _,by show (0:Int)≤_;decide⟩
 | cons e r ih =>
   have hm:=okV_mem h e List.mem_cons_self
   by_cases hx:e.rep=x
   · rw [ofF_at hx];omega
   · rw [ofF_on hx];exact ih h.2
theorem ofF_low {l:List Ent} {last:Int} (h:okV last l) {x:Int} (hx:x≤last):ofF l x=0:=ofF_none fun e he=>by have:=okV_mem h e he;omega
theorem ofF_out {l:List Ent} {last:Int} (h:okV last l) {x:Int} (hx:x < 0∨200 < x):ofF l x=0:=ofF_none fun e he=>by have:=okV_mem h e he;omega
theorem ofF_mem {l:List Ent} {last:Int} (h:okV last l) {e:Ent} (he:e∈l):ofF l e.rep=e.time:=by
 induction l generalizing last with
 | nil=>cases he
 | cons d r ih =>
   rcases List.mem_cons.1 he with rfl | he
   · rw [ofF_at rfl]
   · have:=okV_mem h.2 e he
     rw [ofF_on (by omega)];exact ih h.2 he
theorem ofF_has {l:List Ent} {x:Int} (h:ofF l x≠0):∃ e∈l,e.rep=x∧e.time=ofF l x:=by
 induction l with
 | nil=>exact absurd rfl h
 | cons d r ih =>
   by_cases hd:d.rep=x
   · exact ⟨d,List.mem_cons_self,hd,by rw [ofF_at hd]⟩
   · rw [ofF_on hd] at h ⊢
     obtain ⟨e,he,h1,h2⟩:=ih h
     exact ⟨e,List.mem_cons_of_mem _ he,h1,h2⟩
theorem ok_ext {l m:List Ent} {a b:Int} (hl:okV a l) (hm:okV b m) (h:∀ x,ofF l x=ofF m x):l=m:=by
 induction l generalizing m a b with
 | nil =>
   cases m with
   | nil=>rfl
   | cons e r =>
     have:=okV_mem hm e List.mem_cons_self
     have h1:=h e.rep
     rw [ofF_at rfl] at h1
     have h2:ofF [] e.rep=0:=rfl
     omega
 | cons d r ih =>
   have hd:=okV_mem hl d List.mem_cons_self
   cases m with
   | nil =>
     have h1:=h d.rep
     rw [ofF_at rfl] at h1
     have h2:ofF [] d.rep=0:=rfl
     omega
   | cons e s =>
     have he:=okV_mem hm e List.mem_cons_self
     have hde:d.rep=e.rep:=by
       rcases Int.lt_trichotomy d.rep e.rep with hlt | heq | hgt
       · have h1:=h d.rep
         rw [ofF_at rfl,ofF_on (by omega),ofF_low hm.2 (by omega)] at h1
         omega
       · exact heq
       · have h1:=h e.rep
         rw [ofF_at (e:=e) rfl,ofF_on (by omega),ofF_low hl.2 (by omega)] at h1
         omega
     have hdt:d=e:=by
       have h1:=h d.rep
       rw [ofF_at rfl,ofF_at hde.symm] at h1
       cases d;cases e;simp_all
     subst hdt
     congr 1
     refine ih hl.2 hm.2 fun x=>?_
     by_cases hx:d.rep=x
     · subst hx
       rw [ofF_low hl.2 (Int.le_refl _),ofF_low hm.2 (Int.le_refl _)]
     · have h1:=h x
       rw [ofF_on hx,ofF_on hx] at h1
       exact h1
def tab (f:Nat→Int):Nat→List Ent
 | 0=>[]
 | n + 1=>if 0 < f n then tab f n ++ [⟨n,f n⟩] else tab f n
theorem tab_yes {f:Nat→Int} {n:Nat} (h:0 < f n):tab f (n + 1)=tab f n ++ [⟨n,f n⟩]:=by rw [tab,if_pos h]
theorem tab_no {f:Nat→Int} {n:Nat} (h:¬ 0 < f n):tab f (n + 1)=tab f n:=by rw [tab,if_neg h]
theorem tab_congr {f g:Nat→Int} {n:Nat} (h:∀ r,r < n→f r=g r):tab f n=tab g n:=by
 induction n with
 | zero=>rfl
 | succ n ih=>rw [tab,tab,ih fun r hr=>h r (by omega),h n (by omega)]
theorem tab_len (f:Nat→Int) (n:Nat):(tab f n).length≤n:=by
 induction n with
 | zero=>exact Nat.le_refl _
 | succ n ih =>
   by_cases h:0 < f n
   · rw [tab_yes h,List.length_append];simp;omega
   · rw [tab_no h];omega
theorem tab_lt (f:Nat→Int) (n:Nat):∀ e∈tab f n,0≤e.rep∧e.rep < (n:Int):=by
 induction n with
 | zero=>intro e h;cases h
 | succ n ih =>
   intro e he
   by_cases h:0 < f n
   · rw [tab_yes h] at he
     rcases List.mem_append.1 he with he | he
     · have:=ih e he;omega
     · rw [List.mem_singleton.1 he];simp only;omega
   · rw [tab_no h] at he
     have:=ih e he;omega
theorem tab_okV {f:Nat→Int} (hf:∀ r,f r≤1099511627776) {n:Nat} (hn:n≤201):okV (-1) (tab f n):=by
 induction n with
 | zero=>trivial
 | succ n ih =>
   by_cases h:0 < f n
   · rw [tab_yes h]
     refine okV_snoc (ih (by omega)) (fun d hd=>?_) ?_
     · have:=tab_lt f n d hd;simp only;omega
     · rw [wrE_ok];have:=hf n;simp only;omega
   · rw [tab_no h];exact ih (by omega)
theorem ofF_tab (f:Nat→Int) (n:Nat) (x:Int):ofF (tab f n) x=if 0≤x∧x < n∧0 < f x.toNat then f x.toNat else 0:=by
 induction n with
 | zero=>rw [if_neg (by omega)];rfl
 | succ n ih =>
   by_cases h:0 < f n
   · rw [tab_yes h,ofF_snoc (fun d hd=>by have:=tab_lt f n d hd;simp only;omega),ih]
     simp only
     by_cases hx:(n:Int)=x
     · subst hx
       rw [if_pos rfl,Int.toNat_natCast,if_pos ⟨by omega,by omega,h⟩]
     · rw [if_neg hx]
       by_cases h2:0≤x∧x < n∧0 < f x.toNat
       · rw [if_pos h2,if_pos ⟨h2.1,by omega,h2.2.2⟩]
       · rw [if_neg h2,if_neg (by omega)]
   · rw [tab_no h,ih]
     by_cases h2:0≤x∧x < n∧0 < f x.toNat
     · rw [if_pos h2,if_pos ⟨h2.1,by omega,h2.2.2⟩]
     · rw [if_neg h2,if_neg]
       rintro ⟨h3,h4,h5⟩
       by_cases hx:x=(n:Int)
       · subst hx;rw [Int.toNat_natCast] at h5;exact h h5
       · exact h2 ⟨h3,by omega,h5⟩
theorem tab_self {l:List Ent} {last:Int} (h:okV last l):tab (fun r=>ofF l (r:Int)) 201=l:=by
 refine ok_ext (a:=-1) (b:=last) (tab_okV (fun r=>(ofF_bd h _).2) (Nat.le_refl _)) h fun x=>?_
 rw [ofF_tab]
 by_cases h2:0≤x∧x < ((201:Nat):Int)∧0 < ofF l (x.toNat:Int)
 · rw [if_pos h2];congr 1;omega
 · rw [if_neg h2]
   have hb:=ofF_bd h x
   by_cases hx:0≤x∧x≤200
   · have e:(x.toNat:Int)=x:=by omega
     rw [e] at h2
     omega
   · rw [ofF_out h (by omega)]
def jF (a b:List Ent) (r:Nat):Int:=max (ofF a r) (ofF b r)
def joinL (a b:List Ent):List Ent:=tab (jF a b) 201
theorem jF_bd {a b:List Ent} {x y:Int} (ha:okV x a) (hb:okV y b) (r:Nat):0≤jF a b r∧jF a b r≤1099511627776:=by
 have:=ofF_bd ha r;have:=ofF_bd hb r;unfold jF;omega
theorem join_okV {a b:List Ent} {x y:Int} (ha:okV x a) (hb:okV y b):okV (-1) (joinL a b):=tab_okV (fun r=>(jF_bd ha hb r).2) (Nat.le_refl _)
theorem join_of {a b:List Ent} {x y:Int} (ha:okV x a) (hb:okV y b) (z:Int):ofF (joinL a b) z=max (ofF a z) (ofF b z):=by
 unfold joinL
 rw [ofF_tab]
 have h1:=ofF_bd ha z
 have h2:=ofF_bd hb z
 by_cases hz:0≤z∧z≤200
 · have e:(z.toNat:Int)=z:=by omega
   unfold jF
   rw [e]
   split
   · rfl
   · omega
 · rw [if_neg (by omega),ofF_out ha (by omega),ofF_out hb (by omega)];rfl
def joinR (a b:List Ent):Nat×List Ent :=
 if (vrightF a).1≠0 then ((vrightF a).1,[]) else if (vrightF b).1≠0 then ((vrightF b).1,[]) else if 16 < (joinL a b).length then (4,[]) else (0,joinL a b)
theorem joinR_a {a b:List Ent} (h:(vrightF a).1≠0):joinR a b=((vrightF a).1,[]):=by unfold joinR;rw [if_pos h]
theorem joinR_b {a b:List Ent} (h:(vrightF a).1=0) (h2:(vrightF b).1≠0):joinR a b=((vrightF b).1,[]):=by unfold joinR;rw [if_neg (by simpa using h),if_pos h2]
theorem joinR_many {a b:List Ent} (h:(vrightF a).1=0) (h2:(vrightF b).1=0) (h3:16 < (joinL a b).length):joinR a b=(4,[]):=by unfold joinR;rw [if_neg (by simpa using h),if_neg (by simpa using h2),if_pos h3]
theorem joinR_ok {a b:List Ent} (h:(vrightF a).1=0) (h2:(vrightF b).1=0) (h3:¬ 16 < (joinL a b).length):joinR a b=(0,joinL a b):=by unfold joinR;rw [if_neg (by simpa using h),if_neg (by simpa using h2),if_neg h3]
def covA (a b:List Ent):Bool:=b.all fun e=>decide (e.time≤ofF a e.rep)
def covB (a b:List Ent):Bool:=decide ((vrightF a).1=0) && decide ((vrightF b).1=0) && covA a b
theorem covA_iff {a b:List Ent} {x y:Int} (ha:okV x a) (hb:okV y b):covA a b=true↔∀ z,ofF b z≤ofF a z:=by
 unfold covA
 rw [List.all_eq_true]
 constructor
 · intro h z
   have h1:=ofF_bd ha z
   have h2:=ofF_bd hb z
   by_cases h0:ofF b z=0
   · omega
   · obtain ⟨e,he,rfl,h4⟩:=ofF_has h0
     have:=h e he
     simp only [decide_eq_true_eq] at this
     omega
 · intro h e he
   have:=h e.rep
   rw [ofF_mem hb he] at this
   simpa using this
theorem covB_iff {a b:List Ent} (ha:rightV a) (hb:rightV b):covB a b=true↔∀ z,ofF b z≤ofF a z:=by
 unfold covB
 rw [vright_of ha,vright_of hb,←covA_iff ha.2 hb.2];simp
end Go.Proofs.YtddbpnplbcjpgaaGreatDoor
namespace Go.Proofs.YtddbpnplbcjpgaaGreatDoor
open Go.RowKit
theorem within_yes (n lo hi:Int) (w:World) (h1:lo≤n) (h2:n≤hi) :
   Calls Tryz.prog 58 #[.int .i64 n,.int .i64 lo,.int .i64 hi] w fun e w'=>e=.returned (.bool true)∧w=w':=by
 go_enter Tryz.func58,Tryz.ntmps58
 go_wp2
 go_ret
 exact ⟨rfl,rfl⟩
theorem within_low (n lo hi:Int) (w:World) (h1:n < lo) :
   Calls Tryz.prog 58 #[.int .i64 n,.int .i64 lo,.int .i64 hi] w fun e w'=>e=.returned (.bool false)∧w=w':=by
 go_enter Tryz.func58,Tryz.ntmps58
 go_wp2
 go_ret
 exact ⟨rfl,rfl⟩
theorem within_high (n lo hi:Int) (w:World) (h1:lo≤n) (h2:hi < n) :
   Calls Tryz.prog 58 #[.int .i64 n,.int .i64 lo,.int .i64 hi] w fun e w'=>e=.returned (.bool false)∧w=w':=by
 have h3:decide (n≤hi)=false:=by simp;omega
 go_enter Tryz.func58,Tryz.ntmps58
 go_wp2
 go_ret
 exact ⟨rfl,rfl⟩
end Go.Proofs.YtddbpnplbcjpgaaGreatDoor
namespace Go.Proofs.YtddbpnplbcjpgaaGreatDoor
open Go.RowKit
def errV (e:Nat):Value:=if e=0 then .nilIface else .iface 40 (.int .i64 e)
def hasV (K:Int):Bool:=decide (K=1) || decide (K=4)
def hasN (K:Int):Bool:=decide (K=3) || decide (K=4)
def idOk (T R:Int):Bool:=decide (1≤T∧T≤1099511627776∧0≤R∧R≤200)
def fitsN (K N:Int):Bool:=if K=3 then decide (-1125899906842624≤N) && decide (N≤1125899906842624) else if K=4 then decide (0≤N) && decide (N≤1000) else true
def wriE (T R K:Int) (key val:ByteArray) (N:Int):Nat :=
 if K < 1∨4 < K then 1 else if idOk T R=false then 2 else if 40 < key.size∨300 < val.size then 4 else if (0 < val.size∧hasV K=false)∨(N≠0∧hasN K=false) then 3 else if fitsN K N=false then 2 else 0
theorem wriE_kind {T R K:Int} {key val:ByteArray} {N:Int} (h:K < 1∨4 < K):wriE T R K key val N=1:=if_pos h
theorem wriE_id {T R K:Int} {key val:ByteArray} {N:Int} (h:¬ (K < 1∨4 < K)) (h1:idOk T R=false):wriE T R K key val N=2:=by unfold wriE;rw [if_neg h,if_pos h1]
theorem wriE_size {T R K:Int} {key val:ByteArray} {N:Int} (h:¬ (K < 1∨4 < K)) (h1:idOk T R=true) (h2:40 < key.size∨300 < val.size):wriE T R K key val N=4:=by
 unfold wriE;rw [if_neg h,if_neg (by rw [h1];decide),if_pos h2]
theorem wriE_rest {T R K:Int} {key val:ByteArray} {N:Int} (h:¬ (K < 1∨4 < K)) (h1:idOk T R=true) (h2:¬ (40 < key.size∨300 < val.size)) :
   wriE T R K key val N=if ((decide (0 < val.size) && !hasV K) || (decide (N≠0) && !hasN K))=true then 3 else if fitsN K N=true then 0 else 2:=by
 unfold wriE
 rw [if_neg h,if_neg (by rw [h1];decide),if_neg h2]
 cases hasV K <;> cases hasN K <;> cases fitsN K N <;> simp
theorem empty_of {s:ByteArray} (h:¬ 0 < s.size):s=⟨#[]⟩:=by
 cases s with
 | mk d => have : d.size = 0 := by have h2 : ¬ 0 < d.size := h; omega
           rw [Array.eq_empty_of_size_eq_zero this]
theorem bne_empty {s:ByteArray} (h:0 < s.size):(s.toList != [])=true:=by
 rw [ByteArray.toList_eq,bne_iff_ne]
 intro e
 have:s.data.toList.length=0:=by rw [e];rfl
 have h2:s.data.toList.length=s.size:=Array.length_toList
 omega
theorem wriE_good {T R K:Int} {key val:ByteArray} {N:Int} (h:wriE T R K key val N=0) :
   ¬ (K < 1∨4 < K)∧idOk T R=true∧key.size≤40∧val.size≤300∧¬ ((0 < val.size∧hasV K=false)∨(N≠0∧hasN K=false))∧fitsN K N=true:=by
 unfold wriE at h
 split at h
 · simp at h
 · split at h
   · simp at h
   · split at h
     · simp at h
     · split at h
       · simp at h
       · split at h
         · simp at h
         · rename_i h1 h2 h3 h4 h5
           exact ⟨h1,by simpa using h2,by omega,by omega,h4,by simpa using h5⟩
end Go.Proofs.YtddbpnplbcjpgaaGreatDoor
namespace Go.Proofs.YtddbpnplbcjpgaaGreatDoor
open Go.ChangeShapes Go.WideShapes Go.ChangeAt Go.RowKit
theorem laidOutW:laidOutB Tryz.prog=true:=by kernel_rfl
structure Wr where
 time:Int
 rep:Int
 kind:Int
 key:ByteArray
 value:ByteArray
 n:Int
def wrC (x:Wr):List Value:=[.int .i64 x.time,.int .i64 x.rep,.int .i64 x.kind,.string x.key,.string x.value,.int .i64 x.n]
def wrV (x:Wr):Value:=.agg (wrC x).toArray
def WrOk (x:Wr):Prop:=-9223372036854775808≤x.n∧x.n≤9223372036854775807∧x.key.size≤140737488351232∧x.value.size≤140737488351232
theorem pair_fields {H:Type} {enc:TypeId×Value→H} {P:Program} {W:World} {spare:Nat→Bool} {held:Bool} {n:Nat} {t:TypeId} {cs:List Value} {x:DataW H×List MemPlace} {p q:Field}
   (ht:P.underlying t=some (.struct #[p,q])) (h1:Go.Deep.oneCellFields P #[p,q]=true) (h3:P.cellsOf t=2)
   (h:DataW.trod enc P W 0 spare held n t cs=some x) :
   ∃ (a b:Value) (u v:DataW H×List MemPlace) (m:Nat),cs=[a,b]∧x.1=.agg [u.1,v.1] ∧
     DataW.trod enc P W 0 spare held m p.type [a]=some u∧DataW.trod enc P W 0 spare held m q.type [b]=some v:=by
 obtain ⟨xs,m,_,hx,hl,hxl,hf⟩:=DataW.trod_struct ht h
 rw [h3] at hl
 have hxl':xs.length=2:=hxl
 match cs,hl with
 | [a,b],_ =>
   match xs,hxl' with
   | [u,v],_ =>
     have one:=Go.Deep.hone_of h1
     have g0:=hf 0 p rfl
     have g1:=hf 1 q rfl
     rw [(one 0 p rfl).1,(one 0 p rfl).2] at g0
     rw [(one 1 q rfl).1,(one 1 q rfl).2] at g1
     exact ⟨a,b,u,v,m,rfl,by rw [hx];rfl,g0,g1⟩
def wrD {H:Type} (x:Wr):DataW H:=.agg [.agg [.lit (.int .i64 x.time),.lit (.int .i64 x.rep)],.lit (.int .i64 x.kind),.lit (.string x.key.data.toList),.lit (.string x.value.data.toList),.lit (.int .i64 x.n)]
set_option maxRecDepth 100000 in
theorem wr_elem {H:Type} {enc:TypeId×Value→H} {W:World} {spare:Nat→Bool} {held:Bool} {n:Nat} {cs:List Value} {x:DataW H×List MemPlace}
   (h:DataW.trod enc Tryz.prog W 0 spare held n 26 cs=some x):∃ t:Wr,cs=wrC t∧x.1=wrD t∧-9223372036854775808≤t.n∧t.n≤9223372036854775807:=by
 obtain ⟨xs,m,_,hx,hl,hxl,hf⟩:=DataW.trod_struct Tryz.underlying26 h
 have c6:Tryz.prog.cellsOf 26=6:=by kernel_rfl
 have c2:Tryz.prog.cellsOf 24=2:=by kernel_rfl
 have cI:Tryz.prog.cellsOf 3=1:=by kernel_rfl
 have cS:Tryz.prog.cellsOf 9=1:=by kernel_rfl
 rw [c6] at hl
 have hxl':xs.length=5:=hxl
 match cs,hl with
 | [a,b,c,d,e,f],_ =>
   match xs,hxl' with
   | [u0,u1,u2,u3,u4],_ =>
     have g0:=hf 0 _ rfl
     have g1:=hf 1 _ rfl
     have g2:=hf 2 _ rfl
     have g3:=hf 3 _ rfl
     have g4:=hf 4 _ rfl
     simp [c2,cI,cS] at g0 g1 g2 g3 g4
     obtain ⟨a',b',y0,y1,m',hab,hy,t0,t1⟩:=pair_fields Tryz.underlying24 (by kernel_rfl) (by kernel_rfl) g0
     simp at hab
     obtain ⟨rfl,rfl⟩:=hab
     obtain ⟨T,e0,f0,_⟩:=DataW.trod_int Tryz.underlying3 t0
     obtain ⟨R,e1,f1,_⟩:=DataW.trod_int Tryz.underlying3 t1
     obtain ⟨K,e2,f2,_⟩:=DataW.trod_int Tryz.underlying3 g1
     obtain ⟨key,e3,f3,_⟩:=DataW.trod_string Tryz.underlying9 g2
     obtain ⟨val,e4,f4,_⟩:=DataW.trod_string Tryz.underlying9 g3
     obtain ⟨N,e5,f5,w5⟩:=DataW.trod_int Tryz.underlying3 g4
     obtain rfl:=List.head_eq_of_cons_eq e0
     obtain rfl:=List.head_eq_of_cons_eq e1
     obtain rfl:=List.head_eq_of_cons_eq e2
     obtain rfl:=List.head_eq_of_cons_eq e3
     obtain rfl:=List.head_eq_of_cons_eq e4
     obtain rfl:=List.head_eq_of_cons_eq e5
     have b5:=bounds_i64 w5
     refine ⟨⟨T,R,K,key,val,N⟩,rfl,?_,b5.1,b5.2⟩
     rw [hx]
     simp only [List.map_cons,List.map_nil,hy,f0,f1,f2,f3,f4,f5]
     rfl
end Go.Proofs.YtddbpnplbcjpgaaGreatDoor
