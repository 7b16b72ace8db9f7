import Derived.Test.YtagoidpkbloflaaGreatDoorKlq
import Derived.Test.YtagoidpkbloflaaGreatDoorKl02
import Derived.Laws.BitsAllLaws
import Derived.Test.YtagoidpkbloflaaGreatDoorRows
import Derived.Lib.Strings
namespace Go.Proofs.YtagoidpkbloflaaGreatDoor
open Lib (hid)
set_option maxRecDepth 100000
set_option maxHeartbeats 8000000
section
theorem zF (l:List UInt8) (a b n:Nat) (h1:1≤b) (ha:b≤a) (hn:a+n≤l.length) (h:∀ j,j<n→l.getD (a+j) 0=l.getD (a+j-b) 0) :
 ∀ m,m≤n→repL (l.take (a+(n-m))) b m=l.take (a+n):=by
 intro m
 induction m with
 | zero=>intro _;rw [Nat.sub_zero];rfl
 | succ m ih =>
  intro hm;have hlt:a+(n-(m+1))<l.length:=by omega
  rw [repL];have e:l.take (a+(n-(m+1)))++[(l.take (a+(n-(m+1)))).getD ((l.take (a+(n-(m+1)))).length-b) 0]=l.take (a+(n-m)):=by
   rw [show a+(n-m)=a+(n-(m+1))+1 by omega,E8 hlt]
   congr 2
   rw [DK,Nat.min_eq_left (by omega)];have h2:=h (n-(m+1)) (by omega);have h3:l.getD (a+(n-(m+1))) 0=l[a+(n-(m+1))]:=by simp [hlt]
   rw [←h3,h2,DN,DN,EP (by omega)]
  rw [e];exact ih (by omega)
theorem CT (s:List UInt8) (a:Nat) (hs:s≠[]) (h:a+s.length≤20000):ap ⟨⟨s.toArray⟩,0,0⟩ a=0:=by
 have hz:s.length≠0:=fun e=>hs (E0.1 e)
 unfold ap;simp only [bm]
 rw [if_neg hz,if_neg (by simp),if_neg (by omega)]
theorem CU (b n a:Nat) (h1:4≤n) (h2:n≤67) (h3:1≤b) (h4:b≤1024) (h5:b≤a) (h6:a+n≤20000):ap (repT b n) a=0:=by
 unfold ap repT;simp only
 rw [if_pos (show (⟨#[]⟩:ByteArray).size=0 from rfl),if_neg (by omega),if_neg (by omega),if_neg (by omega),if_neg (by omega)]
theorem xp (s:List UInt8):lenT ⟨⟨s.toArray⟩,0,0⟩=s.length:=by unfold lenT;simp only [bm];rfl
theorem xq (b n:Nat):lenT (repT b n)=n:=by unfold lenT repT;simp only [E2];show 0+n=n;omega
theorem AQ (b s:List UInt8):co b ⟨⟨s.toArray⟩,0,0⟩=b++s:=rfl
theorem AR (c:List UInt8) (b n:Nat):co c (repT b n)=repL c b n:=by
 unfold co repT;simp only [E2]
 rw [DV]
theorem qG (l:List UInt8) (fr a i:Nat) (r:List Tok) (hf:fr≤a) (ha:a≤l.length) (hl:l.length≤20000) :
 ((a8 (ownT ((l.take a).drop fr)++r) i fr).1=0↔(a8 r (if (l.take a).drop fr=[] then i else i+1) a).1=0) ∧
 aD (l.take fr) (ownT ((l.take a).drop fr)++r)=aD (l.take a) r:=by
 by_cases hz:(l.take a).drop fr=[]
 ·have e : fr = a := by
   have:=congrArg List.length hz;rw [Dj,DK] at this;simp at this;omega
  subst e;rw [hz,qE,if_pos rfl];exact ⟨Iff.rfl,rfl⟩
 ·have hlen:((l.take a).drop fr).length=a-fr:=by rw [Dj,DK,Nat.min_eq_left ha]
  rw [mG hz,if_neg hz,List.singleton_append,eA (CT _ _ hz (by omega)),xp,hlen,show fr+(a-fr)=a by omega,aD];refine ⟨Iff.rfl,?_⟩;rw [List.foldl_cons,AQ];have e:l.take fr=(l.take a).take fr:=by rw [List.take_take,Nat.min_eq_left hf]
  rw [e,EE];rfl
theorem BD (l:List UInt8) (hl:l.length≤20000):∀ f fr a i,fr≤a→a≤l.length→l.length≤a+f →
 (a8 (tks l f fr a) i fr).1=0∧aD (l.take fr) (tks l f fr a)=l:=by
 intro f;have hend:∀ fr a i,fr≤a→a=l.length→(a8 (ownT ((l.take a).drop fr)) i fr).1=0∧aD (l.take fr) (ownT ((l.take a).drop fr))=l:=by
  intro fr a i h1 h2;have h:=qG l fr a i [] h1 (by omega) hl;rw [DV] at h;refine ⟨h.1.2 rfl,h.2.trans ?_⟩;show l.take a=l
  rw [h2,ES]
 induction f with
 | zero=>intro fr a i h1 h2 h3;exact hend fr a i h1 (by omega)
 | succ f ih =>
  intro fr a i h1 h2 h3;by_cases hlt:a<l.length
  ·rcases lX l a with ⟨hz,_⟩ | ⟨b,n,hfn,_,hb1,hb2,hb3,hn1,hn2,hn3,hsm,_⟩
   ·rw [nk hlt (by rw [hz])];exact ih fr (a+1) i (by omega) (by omega) (by omega)
   ·rw [nj hlt hfn (by omega)];have h:=qG l fr a i (repT b n::tks l f (a+n) (a+n)) h1 h2 hl;rw [h.1,h.2,eA (CU b n a hn1 hn2 hb1 hb2 hb3 (by omega)),xq];obtain ⟨k1,k2⟩:=ih (a+n) (a+n) ((if (l.take a).drop fr=[] then i else i+1)+1) (Db _) hn3 (by omega);refine ⟨k1,?_⟩;show aD (co (l.take a) (repT b n)) (tks l f (a+n) (a+n))=l
    rw [AR];have hr:=zF l a b n hb1 hb3 hn3 hsm.2.1 n (Db _);rw [Nat.sub_self,Nat.add_zero] at hr;rw [hr];exact k2
  ·rw [ni hlt];exact hend fr a i h1 (by omega)
theorem s5 (l:List UInt8) (hl:l.length≤20000):a8 (toks l) 0 0=(0,-1)∧aD [] (toks l)=l:=by
 have h:=BD l hl l.length 0 0 0 (Db _) (Ds _) (by omega);rw [List.take_zero] at h;exact ⟨fM h.1,h.2⟩
theorem BC (l:List UInt8):∀ f fr a,∀ t∈tks l f fr a,t.own.size≤l.length:=by
 intro f;have ho:∀ fr a,∀ t∈ownT ((l.take a).drop fr),t.own.size≤l.length:=fun fr a t h=>by
  unfold ownT at h;split at h
  ·cases h
  ·rw [Ek.1 h];simp only [bm,Dj,DK];omega
 induction f with
 | zero=>intro fr a;exact ho _ _
 | succ f ih =>
  intro fr a t h;rw [tks] at h;split at h
  ·split at h
   ·exact ih _ _ t h
   ·rcases Ef.1 h with h | h
    ·exact ho _ _ t h
    ·rcases Et.1 h with h | h
     ·rw [h];exact Ds _
     ·exact ih _ _ t h
  ·exact ho _ _ t h
theorem BB (l:List UInt8):∀ f fr a,(tks l f fr a).length≤2 * f+1:=by
 intro f;have ho:∀ x:List UInt8,(ownT x).length≤1:=fun x=>by unfold ownT;split <;> simp
 induction f with
 | zero=>intro fr a;exact ho _
 | succ f ih =>
  intro fr a;rw [tks];split
  ·split
   ·have:=ih fr (a+1);omega
   ·have:=ih (a+(find l a).2) (a+(find l a).2);have h2:=ho ((l.take a).drop fr);rw [Df,DM];omega
  ·have:=ho ((l.take a).drop fr);omega
end
section
open Go.RowKit
theorem toLs (s:ByteArray):s.toList=s.data.toList:=Ew s
theorem lR {s:ByteArray} (h:s.size=0):s.toList.isEmpty=true:=by
 rw [toLs];have hl:=ac s;cases hd:s.data.toList with
 | nil=>rfl
 | cons a r=>rw [hd,h] at hl;simp at hl
theorem m3 {s:ByteArray} (h:s.size≠0):s.toList.isEmpty=false:=by
 rw [toLs];have hl:=ac s;cases hd:s.data.toList with
 | nil=>rw [hd] at hl;exact absurd hl h
 | cons a r=>rfl
def tokV (t:Tok):Value:=.agg #[.string t.own,.int .i64 t.back,.int .i64 t.size]
theorem lI (s:ByteArray) (b n:Int) (w:World) (h1:4≤n) (h2:n≤67) (h3:1≤b) (h4:b≤1024) :
 Calls Tryz.prog 211 #[.agg #[.string s,.int .i64 b,.int .i64 n]] w fun e w'=>e=.returned (.bool false)∧Below w.heap.size w w':=by
 have d1:decide (n<4)=false:=by simp;omega
 have d2:decide (67<n)=false:=by simp;omega
 have d3:decide (b<1)=false:=by simp;omega
 have d4:decide (1024<b)=false:=by simp;omega
 go_enter Tryz.func211,Tryz.ntmps211
 go_wp2;go_ret;exact ⟨rfl,(Below.refl _ _).alloc (Db _) _⟩
theorem oJ (s:ByteArray) (b n:Int) (w:World) (h:n<4∨67<n∨b<1∨1024<b) :
 Calls Tryz.prog 211 #[.agg #[.string s,.int .i64 b,.int .i64 n]] w fun e w'=>e=.returned (.bool true)∧Below w.heap.size w w':=by
 by_cases c1:n<4
 ·have d1:decide (n<4)=true:=by simpa using c1
  clear h;go_enter Tryz.func211,Tryz.ntmps211
  go_wp2;go_ret;exact ⟨rfl,(Below.refl _ _).alloc (Db _) _⟩
 ·have d1:decide (n<4)=false:=by simpa using c1
  by_cases c2:67<n
  ·have d2:decide (67<n)=true:=by simpa using c2
   clear h;go_enter Tryz.func211,Tryz.ntmps211
   go_wp2;go_ret;exact ⟨rfl,(Below.refl _ _).alloc (Db _) _⟩
  ·have d2:decide (67<n)=false:=by simpa using c2
   by_cases c3:b<1
   ·have d3:decide (b<1)=true:=by simpa using c3
    clear h;go_enter Tryz.func211,Tryz.ntmps211
    go_wp2;go_ret;exact ⟨rfl,(Below.refl _ _).alloc (Db _) _⟩
   ·have d3:decide (b<1)=false:=by simpa using c3
    have c4:1024<b:=by omega
    have d4:decide (1024<b)=true:=by simpa using c4
    clear h;go_enter Tryz.func211,Tryz.ntmps211
    go_wp2;go_ret;exact ⟨rfl,(Below.refl _ _).alloc (Db _) _⟩
theorem ig (s:ByteArray) (b n:Int) (w:World) (hs:s.size≤140737488351232) (h0:0≤n) (h1:n≤1000) :
 Calls Tryz.prog 189 #[.agg #[.string s,.int .i64 b,.int .i64 n]] w fun e w'=>e=.returned (.int .i64 (lenT ⟨s,b,n⟩:Nat))∧Below w.heap.size w w':=by
 have HE:Hid (((s.size:Int)+n)=(lenT ⟨s,b,n⟩:Nat)):=by
  have h:((s.size:Int)+n)=(lenT ⟨s,b,n⟩:Nat):=by show _=(((s.size+n.toNat:Nat)):Int);omega
  exact h
 go_enter Tryz.func189,Tryz.ntmps189
 go_wp2;go_ret;exact ⟨by rw [←HE.out];rfl,(Below.refl _ _).alloc (Db _) _⟩
theorem sW (s:ByteArray) (b n:Int) (a:Nat) (w:World) (hs:s.size≤140737488351232) (ha:a≤20000) :
 Calls Tryz.prog 188 #[.agg #[.string s,.int .i64 b,.int .i64 n],.int .i64 a] w fun e w'=>e=.returned (.int .i64 (ap ⟨s,b,n⟩ a:Nat))∧Below w.heap.size w w':=by
 by_cases h0:s.size=0
 ·have e1:=lR h0;by_cases hz:n=0∧b=0
  ·have HW : Hid (ap ⟨s, b, n⟩ a = 1) := by
    have h:ap ⟨s,b,n⟩ a=1:=by unfold ap;rw [if_pos h0,if_pos hz]
    exact h
   obtain ⟨rfl,rfl⟩:=hz;clear h0 hs;go_enter Tryz.func188,Tryz.ntmps188
   go_wp2;go_ret;exact ⟨by rw [HW.out];rfl,(Below.refl _ _).alloc (Db _) _⟩
  ·by_cases hy:n<4∨67<n∨b<1∨1024<b
   ·have HW : Hid (ap ⟨s, b, n⟩ a = 2) := by
     have h:ap ⟨s,b,n⟩ a=2:=by unfold ap;rw [if_pos h0,if_neg hz,if_pos hy]
     exact h
    have HY:=hid hy;clear hy;by_cases h1:n=0
    ·subst h1;have d1:(b != 0)=true:=by simp;omega
     clear h0 hs hz;go_enter Tryz.func188,Tryz.ntmps188
     go_wp2_with fail
     refine (oJ s b 0 _ HY.out).mono ?_;rintro r w1 ⟨rfl,hb1⟩;have HB:Hid (Below w.heap.size w w1):=((Below.refl _ _).alloc (Db _) _).trans (hb1.mono (by simp));clear hb1;go_wp2;go_ret;exact ⟨by rw [HW.out];rfl,HB.out⟩
    ·have d1:(n != 0)=true:=by simp;omega
     clear h0 hs hz h1;go_enter Tryz.func188,Tryz.ntmps188
     go_wp2_with fail
     refine (oJ s b n _ HY.out).mono ?_;rintro r w1 ⟨rfl,hb1⟩;have HB:Hid (Below w.heap.size w w1):=((Below.refl _ _).alloc (Db _) _).trans (hb1.mono (by simp));clear hb1;go_wp2;go_ret;exact ⟨by rw [HW.out];rfl,HB.out⟩
   ·have h4:4≤n:=by omega
    have h5:n≤67:=by omega
    have h6:1≤b:=by omega
    have h7:b≤1024:=by omega
    have d1:(n != 0)=true:=by simp;omega
    have HL:Hid ((lenT ⟨s,b,n⟩:Nat)=n.toNat):=by
     have h:lenT ⟨s,b,n⟩=n.toNat:=by show s.size+n.toNat=_;omega
     exact h
    obtain ⟨n,rfl⟩:=DS (show 0≤n by omega);rw [E2] at HL;by_cases h8:(a:Int)<b
    ·have HW : Hid (ap ⟨s, b, n⟩ a = 7) := by
      have h:ap ⟨s,b,n⟩ a=7:=by unfold ap;rw [if_pos h0,if_neg hz,if_neg hy,if_pos h8]
      exact h
     clear h0 hz hy HL;go_enter Tryz.func188,Tryz.ntmps188
     go_wp2_with fail
     refine (lI s b _ _ h4 h5 h6 h7).mono ?_;rintro r w1 ⟨rfl,hb1⟩;have HB:Hid (Below w.heap.size w w1):=((Below.refl _ _).alloc (Db _) _).trans (hb1.mono (by simp));have c0:w1.cell? ⟨w.heap.size,0,none⟩=some (.string s):=(hb1.cell (by simp)).trans (by simp);have c1:w1.cell? ⟨w.heap.size,1,none⟩=some (.int .i64 b):=(hb1.cell (by simp)).trans (by simp);have c2:w1.cell? ⟨w.heap.size,2,none⟩=some (.int .i64 n):=(hb1.cell (by simp)).trans (by simp);clear hb1;go_wp2;go_ret;exact ⟨by rw [HW.out];rfl,HB.out⟩
    ·by_cases h9:20000<(a:Int)+n
     ·have HW : Hid (ap ⟨s, b, n⟩ a = 4) := by
       have h:ap ⟨s,b,n⟩ a=4:=by unfold ap;rw [if_pos h0,if_neg hz,if_neg hy,if_neg h8,if_pos h9]
       exact h
      clear h0 hz hy;go_enter Tryz.func188,Tryz.ntmps188
      go_wp2_with fail
      refine (lI s b _ _ h4 h5 h6 h7).mono ?_;rintro r w1 ⟨rfl,hb1⟩;have HB:Hid (Below w.heap.size w w1):=((Below.refl _ _).alloc (Db _) _).trans (hb1.mono (by simp));have c0:w1.cell? ⟨w.heap.size,0,none⟩=some (.string s):=(hb1.cell (by simp)).trans (by simp);have c1:w1.cell? ⟨w.heap.size,1,none⟩=some (.int .i64 b):=(hb1.cell (by simp)).trans (by simp);have c2:w1.cell? ⟨w.heap.size,2,none⟩=some (.int .i64 n):=(hb1.cell (by simp)).trans (by simp);clear hb1;go_wp2_with fail
      refine (ig s b _ _ hs (by omega) (by omega)).mono ?_;rintro r w2 ⟨rfl,hb2⟩;rw [HL.out];have HB2:Hid (Below w.heap.size w w2):=HB.out.trans (hb2.mono HB.out.size);clear hb2;go_wp2;go_ret;exact ⟨by rw [HW.out];rfl,HB2.out⟩
     ·have HW : Hid (ap ⟨s, b, n⟩ a = 0) := by
       have h:ap ⟨s,b,n⟩ a=0:=by unfold ap;rw [if_pos h0,if_neg hz,if_neg hy,if_neg h8,if_neg h9]
       exact h
      clear h0 hz hy;go_enter Tryz.func188,Tryz.ntmps188
      go_wp2_with fail
      refine (lI s b _ _ h4 h5 h6 h7).mono ?_;rintro r w1 ⟨rfl,hb1⟩;have HB:Hid (Below w.heap.size w w1):=((Below.refl _ _).alloc (Db _) _).trans (hb1.mono (by simp));have c0:w1.cell? ⟨w.heap.size,0,none⟩=some (.string s):=(hb1.cell (by simp)).trans (by simp);have c1:w1.cell? ⟨w.heap.size,1,none⟩=some (.int .i64 b):=(hb1.cell (by simp)).trans (by simp);have c2:w1.cell? ⟨w.heap.size,2,none⟩=some (.int .i64 n):=(hb1.cell (by simp)).trans (by simp);clear hb1;go_wp2_with fail
      refine (ig s b _ _ hs (by omega) (by omega)).mono ?_;rintro r w2 ⟨rfl,hb2⟩;rw [HL.out];have HB2:Hid (Below w.heap.size w w2):=HB.out.trans (hb2.mono HB.out.size);clear hb2;go_wp2;go_ret;exact ⟨by rw [HW.out];rfl,HB2.out⟩
 ·have e1:=m3 h0;have e2:(!s.toList.isEmpty)=true:=by rw [e1];rfl
  by_cases hy:n≠0∨b≠0
  ·have HW : Hid (ap ⟨s, b, n⟩ a = 1) := by
    have h:ap ⟨s,b,n⟩ a=1:=by unfold ap;rw [if_neg h0,if_pos hy]
    exact h
   by_cases h1:n=0
   ·have d0:(n != 0)=false:=by simp;omega
    have d1:(b != 0)=true:=by simp;omega
    clear hy h0 hs h1;go_enter Tryz.func188,Tryz.ntmps188
    go_wp2;go_ret;exact ⟨by rw [HW.out];rfl,(Below.refl _ _).alloc (Db _) _⟩
   ·have d1:(n != 0)=true:=by simp;omega
    clear hy h0 hs h1;go_enter Tryz.func188,Tryz.ntmps188
    go_wp2;go_ret;exact ⟨by rw [HW.out];rfl,(Below.refl _ _).alloc (Db _) _⟩
  ·obtain ⟨rfl,rfl⟩:n=0∧b=0:=by omega
   have HL:Hid ((lenT ⟨s,0,0⟩:Nat)=s.size):=by
    have h:lenT ⟨s,0,0⟩=s.size:=by show s.size+(0:Int).toNat=_;simp
    exact h
   have h8:¬ (a:Int)<0:=by omega
   by_cases h9:20000<a+s.size
   ·have HW : Hid (ap ⟨s, 0, 0⟩ a = 4) := by
     have h:ap ⟨s,0,0⟩ a=4:=by unfold ap;rw [if_neg h0,if_neg hy,if_pos h9]
     exact h
    have h10:20000<(a:Int)+(s.size:Int):=by omega
    clear h0 hy h9;go_enter Tryz.func188,Tryz.ntmps188
    go_wp2_with fail
    refine (ig s 0 0 _ hs (by omega) (by omega)).mono ?_;rintro r w2 ⟨rfl,hb2⟩;rw [HL.out];have HB2:Hid (Below w.heap.size w w2):=((Below.refl _ _).alloc (Db _) _).trans (hb2.mono (by simp));clear hb2;go_wp2;go_ret;exact ⟨by rw [HW.out];rfl,HB2.out⟩
   ·have HW : Hid (ap ⟨s, 0, 0⟩ a = 0) := by
     have h:ap ⟨s,0,0⟩ a=0:=by unfold ap;rw [if_neg h0,if_neg hy,if_neg h9]
     exact h
    have h10:¬ 20000<(a:Int)+(s.size:Int):=by omega
    clear h0 hy h9;go_enter Tryz.func188,Tryz.ntmps188
    go_wp2_with fail
    refine (ig s 0 0 _ hs (by omega) (by omega)).mono ?_;rintro r w2 ⟨rfl,hb2⟩;rw [HL.out];have HB2:Hid (Below w.heap.size w w2):=((Below.refl _ _).alloc (Db _) _).trans (hb2.mono (by simp));clear hb2;go_wp2;go_ret;exact ⟨by rw [HW.out];rfl,HB2.out⟩
end
section
open Go.RowKit Go.Maps
theorem D8 (w:World):(zeroValue 4).run Tryz.prog w=.ok (.bool false) w:=by kernel_rfl
theorem wV:Keyed Tryz.prog 3:=int_keyed Tryz.underlying3
def cR (w:World) (b n:Nat) (t:List ByteArray):Prop:=∃ D,SetM D t∧w.ownsMap Tryz.prog 9 (plainElem Tryz.prog 4) b n D
theorem yG (w:World):cR (w.alloc (.map #[] 0)) w.heap.size 0 []:=⟨_,AI,World.ownsMap_made _ _ _ _⟩
theorem cR.below {w w':World} {b n:Nat} {t:List ByteArray} (h:cR w b n t) (hb:Below w.heap.size w w'):cR w' b n t:=by
 obtain ⟨D,h1,h2⟩:=h;exact ⟨D,h1,h2.kept (row:=none) ⟨hb.os,hb.tape,hb.output,hb.size,fun k hk _=>hb.block k hk⟩ (by simp)⟩
theorem cR.alloc {w:World} {b n:Nat} {t:List ByteArray} (h:cR w b n t) (o:Obj):cR (w.alloc o) b n t:=by
 obtain ⟨D,h1,h2⟩:=h;exact ⟨D,h1,h2.alloc o⟩
theorem cR.drew {w:World} {b n:Nat} {t:List ByteArray} (h:cR w b n t):cR w.drew b n t:=by
 obtain ⟨D,h1,h2⟩:=h;exact ⟨D,h1,h2.drew⟩
section
variable {w:World} {ops:Array Oper} {rest:List Oper} {o:Oper} {a:Act} {Q:Exit→Act→World→Prop}
theorem sL (hg:o.guard=none) (m x:Operand) (hop:o.op=Op.lookup 253 m x false) (b n:Nat) (t:List ByteArray)
 (hm:a.eval m=.map (some b)) (hown:cR w b n t) (s:ByteArray) (hx:a.eval x=.string s) (hs:s.size≤maxLen) (v:Bool) (hv:if v then s∈t else s ∉ t)
 (hK:wpList Tryz.prog ops Q rest (a.put o.dst (.bool v)) w):wpList Tryz.prog ops Q (o::rest) a w:=by
 obtain ⟨D,h1,h2⟩:=hown;refine CD w hg m x _ hop 9 4 ie Tryz.underlying253 _ (D8 w) (.lit (.bool false)) [] (plainElem_bool Tryz.underlying4 false) b n D hm h2 _ _ hx (keyS hs) (.bool v) ?_ hK;intro v' ps hv';obtain ⟨y,rfl,hy⟩:=z8 Tryz.underlying4 hv';cases v with
 | true=>rw [h1.there s (by simpa using hv)] at hy;simp at hy;rw [hy.1]
 | false=>rw [h1.none s (by simpa using hv)] at hy;simp at hy;rw [hy.1]
theorem CH (hg:o.guard=none) (m x v:Operand) (hop:o.op=Op.mapUpdate 253 m x v) (b n:Nat) (t:List ByteArray)
 (hm:a.eval m=.map (some b)) (hown:cR w b n t) (hn:n<maxLen) (s:ByteArray) (hx:a.eval x=.string s) (hv:a.eval v=.bool true) (hs:s.size≤maxLen)
 (hK:∀ w',cR w' b (n+1) (t++[s])→w.grownBy w' (some b)→wpList Tryz.prog ops Q rest (a.put o.dst undef) w'):wpList Tryz.prog ops Q (o::rest) a w:=by
 obtain ⟨D,h1,h2⟩:=hown;refine wpList_mapUpdate_own w hg m x v _ hop 9 4 ie Tryz.underlying253 _ b n D hm h2 hn _ _ _ hx hv (keyS hs) (.lit (.bool true)) [] (plainElem_bool Tryz.underlying4 true) ?_;intro w' h3 h4;exact hK w' ⟨_,h1.put s,h3⟩ h4
end
def cx (w:World) (b n m:Nat):Prop:=∃ D,eN D m∧w.ownsMap Tryz.prog 3 (plainElem Tryz.prog 4) b n D
theorem yH (w:World):cx (w.alloc (.map #[] 0)) w.heap.size 0 0:=⟨_,BG,World.ownsMap_made _ _ _ _⟩
theorem cx.kept {w w':World} {b n m:Nat} {row:Option Nat} (h:cx w b n m) (hg:w.grownBy w' row) (hne:some b≠row):cx w' b n m:=by
 obtain ⟨D,h1,h2⟩:=h;exact ⟨D,h1,h2.kept hg hne⟩
theorem cx.below {w w':World} {b n m:Nat} (h:cx w b n m) (hb:Below w.heap.size w w'):cx w' b n m :=
 h.kept (row:=none) ⟨hb.os,hb.tape,hb.output,hb.size,fun k hk _=>hb.block k hk⟩ (by simp)
theorem cx.alloc {w:World} {b n m:Nat} (h:cx w b n m) (o:Obj):cx (w.alloc o) b n m:=by
 obtain ⟨D,h1,h2⟩:=h;exact ⟨D,h1,h2.alloc o⟩
theorem cx.lt {w:World} {b n m:Nat} (h:cx w b n m):b<w.heap.size:=by
 obtain ⟨D,h1,h2⟩:=h;exact h2.lt
section
variable {w:World} {ops:Array Oper} {rest:List Oper} {o:Oper} {a:Act} {Q:Exit→Act→World→Prop}
theorem lk (hg:o.guard=none) (m:Operand) (hop:o.op=Op.call { callee:=Callee.builtin Builtin.len,args:=#[m],argTypes:=#[152] }) (b n k:Nat) (hm:a.eval m=.map (some b)) (hown:cx w b n k)
 (hK:wpList Tryz.prog ops Q rest (a.put o.dst (.int .i64 (k:Nat))) w):wpList Tryz.prog ops Q (o::rest) a w:=by
 obtain ⟨D,h1,h2⟩:=hown;refine wpList_len_own w hg m _ hop 3 4 Tryz.underlying152 _ b n D hm h2 ?_;rw [h1.size];exact hK
theorem CI (hg:o.guard=none) (m x v:Operand) (hop:o.op=Op.mapUpdate 152 m x v) (b n k:Nat) (hm:a.eval m=.map (some b)) (hown:cx w b n k) (hn:n<maxLen)
 (j:Nat) (hj:j≤k) (hk:k≤1000000) (hx:a.eval x=.int .i64 (j:Nat)) (hv:a.eval v=.bool true)
 (hK:∀ w',cx w' b (n+1) (if j=k then k+1 else k)→w.grownBy w' (some b)→wpList Tryz.prog ops Q rest (a.put o.dst undef) w'):wpList Tryz.prog ops Q (o::rest) a w:=by
 obtain ⟨D,h1,h2⟩:=hown;refine wpList_mapUpdate_own w hg m x v _ hop 3 4 wV Tryz.underlying152 _ b n D hm h2 hn _ _ _ hx hv (keyOf_int_mk Tryz.underlying3 (WalkArith.wf_i64 (by omega))) (.lit (.bool true)) [] (plainElem_bool Tryz.underlying4 true) ?_;intro w' h3 h4;refine hK w' ⟨_,?_,h3⟩ h4;by_cases e:j=k
 ·subst e;rw [if_pos rfl];exact h1.new
 ·rw [if_neg e];exact h1.old (by omega)
end
end
section
open Go.RowKit
theorem AV (w:World) {ops:Array Oper} {o:Oper} {a:Act} {K:Act→World→Prop} {Q:Exit→Act→World→Prop} {E:Prop} (hgd:o.guard=none) (s x:Operand)
 (ho:o.op=.call { callee:=.builtin .append,args:=#[s,x],argTypes:=#[96,96] })
 (base:Nat) (v:Value) (l:List Tok) (hs:a.eval s=v) (hown:ax w base v l)
 (B c:Nat) (hx:a.eval x=.slice (some ⟨B,0,none⟩) 1 c) (t:Tok) (hcell:cg w B t)
 (hlen:l.length+1≤1000000) (hbase:base≤w.heap.size)
 (h:∀ g cap w',ax w' base (.slice (some ⟨g,0,none⟩) (l.length+1) cap) (l++[t])→w.grownBy w' v.ownBlock→K (a.put o.dst (.slice (some ⟨g,0,none⟩) (l.length+1) cap)) w') :
 if Region.wanted o (yielded ops a.tmps)=true then Oper.wp Tryz.prog o a w K Q else E:=by
 obtain ⟨i0,hi,hz0,hz1,hz2⟩:=DU pK;refine step_append_lies w hgd s x 96 ho base 142 i0 (.agg #[.string ⟨#[]⟩,.int .i64 0,.int .i64 0]) 3 32 Tryz.underlying96 hi hz0 hz1 hz2 rfl (by decide) v l.length (cq l) hs hown ⟨B,0,none⟩ 1 c (tokC t) hx rfl ?_ ?_ (by decide) (by unfold maxLen;omega) (by omega) hbase _ rfl ?_
 ·intro j u hj;have hadd:(⟨B,0,none⟩:Addr).add j=⟨B,j,none⟩:=by unfold Addr.add;split <;> simp_all
  rw [hadd,Dd _ _ _ _ _ _ hcell,←hj];unfold tokC;simp
 ·intro u hu;simp [tokC] at hu;rcases hu with rfl | rfl | rfl <;> rfl
 ·intro g cap w' h1 h2 _ _;refine h g cap w' ?_ h2;unfold ax;rw [Df,kJ]
  simpa [cq] using h1
end
section
def cyc (p:List UInt8) (n:Nat):List UInt8:=(List.range n).map fun j=>p.getD (j % p.length) 0
theorem pe (p:List UInt8) (n:Nat):(cyc p n).length=n:=by simp [cyc]
theorem vi (p:List UInt8) (m n:Nat) (h:n≤m):(cyc p m).take n=cyc p n:=by
 unfold cyc;rw [←List.map_take,List.take_range,Nat.min_eq_left h]
theorem vg (p:List UInt8) (n:Nat):cyc p (n+1)=cyc p n++[p.getD (n % p.length) 0]:=by
 unfold cyc;rw [List.range_succ,En];rfl
theorem ve (p:List UInt8):cyc p p.length=p:=by
 apply List.ext_getElem
 ·exact pe _ _
 ·intro i h1 h2;simp only [cyc,List.getElem_map,List.getElem_range]
  rw [Nat.mod_eq_of_lt h2];simp [h2]
theorem vd (p:List UInt8) (q:Nat):cyc p (p.length * q+p.length * q)=cyc p (p.length * q)++cyc p (p.length * q):=by
 unfold cyc;rw [List.range_add,En,List.map_map]
 congr 1
 apply List.map_congr_left
 intro j _;simp only [Function.comp_apply]
 rw [Nat.add_comm,Nat.add_mul_mod_self_left]
theorem v8 (p:List UInt8) (n j:Nat) (h:j<n):(cyc p n).getD j 0=p.getD (j % p.length) 0:=by
 unfold cyc;simp [h]
theorem zD (b:List UInt8) (k n:Nat):repL b k (n+1)=repL b k n++[(repL b k n).getD ((repL b k n).length-k) 0]:=by
 induction n generalizing b with
 | zero=>rfl
 | succ n ih =>
  have h1:repL b k (n+2)=repL (b++[b.getD (b.length-k) 0]) k (n+1):=rfl;have h2:repL b k (n+1)=repL (b++[b.getD (b.length-k) 0]) k n:=rfl;rw [h1,ih,h2]
theorem zB (b:List UInt8) (k n:Nat) (h1:1≤k) (h2:k≤b.length):repL b k n=b++cyc (b.drop (b.length-k)) n:=by
 have hp:(b.drop (b.length-k)).length=k:=by rw [Dj];omega
 induction n with
 | zero=>simp [repL,cyc]
 | succ n ih =>
  rw [zD,ih,vg,←E3]
  congr 2
  rw [Df,pe,hp];by_cases h:n<k
  ·rw [Nat.mod_eq_of_lt h,DN,EQ (by omega),DN,List.getElem?_drop]
   congr 2
   omega
  ·rw [DN,EY (by omega),←DN,v8 _ _ _ (by omega),hp,show b.length+n-k-b.length=n-k by omega]
   congr 1
   exact (Nat.mod_eq_sub_mod (by omega)).symm
end
section
def opnF (s:List UInt8):Nat×List UInt8×Nat :=
 if s.length<8 then (0,[],7) else if s.take 2≠[80,84] then (0,[],5)
 else if (s.getD 2 0).toNat<1∨3<(s.getD 2 0).toNat then (0,[],8)
 else if (aF s).2≠0 then (0,[],(aF s).2)
 else ((s.getD 2 0).toNat,(aF s).1.drop 3,0)
theorem io {s:List UInt8} (h:s.length<8):opnF s=(0,[],7):=by unfold opnF;rw [if_pos h]
theorem ip {s:List UInt8} (h:¬ s.length<8) (h1:s.take 2≠[80,84]):opnF s=(0,[],5):=by unfold opnF;rw [if_neg h,if_pos h1]
theorem iq {s:List UInt8} (h:¬ s.length<8) (h1:s.take 2=[80,84]) (h2:(s.getD 2 0).toNat<1∨3<(s.getD 2 0).toNat):opnF s=(0,[],8):=by
 unfold opnF;rw [if_neg h,if_neg (by simpa using h1),if_pos h2]
theorem iu {s:List UInt8} {e:Nat} (h:¬ s.length<8) (h1:s.take 2=[80,84]) (h2:¬ ((s.getD 2 0).toNat<1∨3<(s.getD 2 0).toNat)) (h3:(aF s).2=e) (he:e≠0):opnF s=(0,[],e):=by
 unfold opnF;rw [if_neg h,if_neg (by simpa using h1),if_neg h2,if_pos (by rw [h3];exact he),h3]
theorem ir {s:List UInt8} (h:¬ s.length<8) (h1:s.take 2=[80,84]) (h2:¬ ((s.getD 2 0).toNat<1∨3<(s.getD 2 0).toNat)) (h3:(aF s).2=0):opnF s=((s.getD 2 0).toNat,(aF s).1.drop 3,0):=by
 unfold opnF;rw [if_neg h,if_neg (by simpa using h1),if_neg h2,if_neg (by rw [h3];simp)]
theorem jU {l o:List UInt8} (h:aF l=(o,0)):o.length=l.length-4:=by
 unfold aF at h;split at h
 ·injection h with _ h;cases h
 ·split at h
  ·injection h with h _;rw [←h,DK];omega
  ·injection h with _ h;cases h
theorem mF {s i:List UInt8} {v:Nat} (h:opnF s=(v,i,0)):1≤i.length∧i.length≤s.length:=by
 by_cases h0:s.length<8
 ·rw [io h0] at h;injection h with _ h;injection h with _ h;cases h
 ·by_cases h1:s.take 2=[80,84]
  ·by_cases h2:(s.getD 2 0).toNat<1∨3<(s.getD 2 0).toNat
   ·rw [iq h0 h1 h2] at h;injection h with _ h;injection h with _ h;cases h
   ·by_cases h3:(aF s).2=0
    ·rw [ir h0 h1 h2 h3] at h;injection h with _ h
     injection h with h _
     have h4:=jU (l:=s) (o:=(aF s).1) (by rw [←h3]);rw [←h,Dj,h4];omega
    ·rw [iu h0 h1 h2 rfl h3] at h;injection h with _ h;injection h with _ h;exact absurd h h3
  ·rw [ip h0 h1] at h;injection h with _ h;injection h with _ h;cases h
end
section
open Go.RowKit
theorem mS {a b:Int} (h:a=b):Ending.returned (.int .u32 a)=.returned (.int .u32 b):=by rw [h]
theorem jf (n:Nat) (h:n<4294967296):bits .and .u32 (n:Int) 1=((n % 2:Nat):Int):=by
 rw [show (1:Int)=((1:Nat):Int) from rfl,u32_and_nat n 1 h (by decide),Nat.and_one_is_mod]
theorem tw {n:Nat} (h:n<4294967296) (ht:(bits .and .u32 (n:Int) 1 == 1)=true):n % 2=1:=by
 rw [jf n h] at ht;have:=eq_of_beq ht;omega
theorem tu {n:Nat} (h:n<4294967296) (ht:(bits .and .u32 (n:Int) 1 == 1)=false):n % 2≠1:=by
 intro e;rw [jf n h,e] at ht;exact absurd ht (by decide)
theorem jG (n:Nat):(n:Int) / 2=((n / 2:Nat):Int):=by omega
theorem AO {n:Nat} (h:n<4294967296) (ht:n % 2=1):bits .xor .u32 ((n:Int) / 2) 2197175160=(st n:Nat):=by
 rw [eE ht,jG,show (2197175160:Int)=((2197175160:Nat):Int) from rfl,u32_xor_nat _ _ (by omega) (by omega)]
theorem AN {n:Nat} (ht:n % 2≠1):(n:Int) / 2=(st n:Nat):=by
 rw [dY ht,jG]
end
section
open Go.RowKit
def errV (e:Nat):Value:=if e=0 then .nilIface else .iface 26 (.int .i64 e)
def numV (r:Nat×Nat×Nat):Value:=.tuple #[.int .u64 r.1,.int .i64 r.2.1,errV r.2.2]
theorem mH (k:Nat):(2:Nat) ^ (7 * k)=128 ^ k:=by rw [Nat.pow_mul]
theorem yp (acc x k:Nat) (ha:acc<128 ^ k) (hx:x<128) (hk:k≤9) (h9:k=9→x≤1) :
 bits .or .u64 (acc:Int) (IntKind.u64.wrap ((x:Int) * 2 ^ (7 * k)))=((acc+x * 128 ^ k:Nat):Int)∧acc+x * 128 ^ k<18446744073709551616:=by
 have hb:acc+x * 128 ^ k<18446744073709551616:=by
  by_cases h:k=9
  ·subst h;have:=h9 rfl;rw [pow9] at ha ⊢;omega
  ·have hp:128 ^ k≤128 ^ 8:=Nat.pow_le_pow_right (by decide) (by omega);have h8:128 ^ 8=72057594037927936:=by decide
   have:=Nat.mul_le_mul (show x≤127 by omega) hp;omega
 refine ⟨?_,hb⟩;have e1:((x:Int) * 2 ^ (7 * k))=((x * 128 ^ k:Nat):Int):=by
  rw [←mH,Int.natCast_mul,Int.natCast_pow];rfl
 rw [e1,DI _ ⟨by omega,by omega⟩,u64_or_nat _ _ (by omega) (by omega),←mH]
 congr 1
 rw [Nat.add_comm,Es x,Nat.two_pow_add_eq_or_of_lt (by rw [mH];exact ha),Nat.or_comm]
theorem fJ {l:List UInt8} {n k e:Nat} {a b:Int} {v:Value} (h:getL l=(n,k,e)) (ha:a=n) (hb:b=k) (hv:v=errV e) :
 Ending.returned (.tuple #[.int .u64 a,.int .i64 b,v])=.returned (numV (getL l)):=by
 rw [h,ha,hb,hv];rfl
theorem fC {l:List UInt8} {e:Nat} (h:scan 0 l=.inl e):getL l=(0,0,e):=by unfold getL;rw [h]
theorem jB {l:List UInt8} {k:Nat} (h:scan 0 l=.inr k):getL l=(valL (l.take k),k,0):=by unfold getL;rw [h]
theorem du (s:ByteArray) (k:Nat) (h:k<s.size):scan k (s.data.toList.drop k)=if k=9∧1<s[k].toNat then .inl 4 else if 0<k∧s[k].toNat=0 then .inl 3 else if s[k].toNat<128 then .inr (k+1) else scan (k+1) (s.data.toList.drop (k+1)) :=
 Az s.data.toList k (by simpa using h)
theorem iS (s:ByteArray) (k:Nat) (h:k<s.size) (hk:k≤9) (h9:k=9→s[k].toNat≤1) :
 bits .or .u64 ((valL (s.data.toList.take k):Nat):Int) (IntKind.u64.wrap ((s[k].toNat:Int) % 128 * 2 ^ (7 * k)))=((valL (s.data.toList.take (k+1)):Nat):Int):=by
 have h':k<s.data.toList.length:=by simpa using h
 have hl:=nZ (s.data.toList.take k);rw [DK,Nat.min_eq_left (by omega)] at hl;have hm:s[k].toNat % 128<128:=Nat.mod_lt _ (by decide);have:=(yp _ (s[k].toNat % 128) k hl hm hk (by intro e;have:=h9 e;omega)).1;rw [ss _ _ h'];exact this
theorem C0 (s:ByteArray) (h:9<s.size) (h9:s[9].toNat≤1) :
 bits .or .u64 ((valL (s.data.toList.take 9):Nat):Int) ((s[9].toNat:Int) % 128 * 9223372036854775808)=((valL (s.data.toList.take 10):Nat):Int):=by
 rw [←iS s 9 h (by omega) (fun _=>h9)]
 congr 1
 rw [show (2:Int) ^ (7 * 9)=9223372036854775808 by decide,DI _ ⟨by omega,by omega⟩]
theorem mg (s:ByteArray) (w:World) (hs:s.size≤maxLen) :
 Calls Tryz.prog 103 #[.string s] w fun e w'=>e=.returned (numV (getL s.data.toList))∧w=w':=by
 unfold maxLen at hs;go_enter Tryz.func103,Tryz.ntmps103
 go_wp2
 go_loop [5,10] (fun n i=>∃ k:Nat,k≤s.size∧k≤9∧i=.int .i64 k∧n=.int .u64 (valL (s.data.toList.take k))∧scan 0 s.data.toList=scan k (s.data.toList.drop k)) (fun _ i=>s.size-(intOf i).toNat)
 case atStart=>exact ⟨0,Ds _,Ds _,rfl,rfl,rfl⟩
 case round =>
  obtain ⟨k,hk,hk9,rfl,rfl,hsc⟩:=hrel;have HSC:=hid hsc;clear hsc;by_cases hlt:k<s.size
  ·by_cases h9:k=9
   ·subst h9;go_wp2
    ·have h1:1<(s[9].toNat:Int):=by assumption
     go_ret3;exact ⟨fJ (fC (by rw [HSC.out,du s 9 hlt,if_pos ⟨rfl,by omega⟩])) rfl rfl rfl,rfl⟩
    ·have h1:(s[9].toNat:Int)≤1:=by assumption
     have h2:((s[9].toNat:Int) == 0)=true:=by assumption
     have h2':s[9].toNat=0:=by have:=eq_of_beq h2;omega
     go_ret3;exact ⟨fJ (fC (by rw [HSC.out,du s 9 hlt,if_neg (by omega),if_pos ⟨by omega,h2'⟩])) rfl rfl rfl,rfl⟩
    ·have h1:(s[9].toNat:Int)≤1:=by assumption
     have h2:((s[9].toNat:Int) == 0)=false:=by assumption
     have h2':s[9].toNat≠0:=by intro h;rw [h] at h2;exact absurd h2 (by decide)
     go_ret3;exact ⟨fJ (jB (by rw [HSC.out,du s 9 hlt,if_neg (by omega),if_neg (by omega),if_pos (by omega)])) (C0 s hlt (by omega)) rfl rfl,rfl⟩
   ·have hb:((k:Int) == 9)=false:=by simp;omega
    have H9:=hid h9;clear h9;go_wp2
    ·have h1:0<k:=by assumption
     have h2:((s[k].toNat:Int) == 0)=true:=by assumption
     have h2':s[k].toNat=0:=by have:=eq_of_beq h2;omega
     go_ret3;exact ⟨fJ (fC (by rw [HSC.out,du s k hlt,if_neg (by intro h;exact H9.out h.1),if_pos ⟨h1,h2'⟩])) rfl rfl rfl,rfl⟩
    ·have h2:((s[k].toNat:Int) == 0)=false:=by assumption
     have h2':s[k].toNat≠0:=by intro h;rw [h] at h2;exact absurd h2 (by decide)
     have h3:(s[k].toNat:Int)<128:=by assumption
     go_ret3;exact ⟨fJ (jB (by rw [HSC.out,du s k hlt,if_neg (by intro h;exact H9.out h.1),if_neg (by intro h;exact h2' h.2),if_pos (by omega)])) (iS s k hlt hk9 (fun h=>absurd h H9.out)) rfl rfl,rfl⟩
    ·have h2:((s[k].toNat:Int) == 0)=false:=by assumption
     have h2':s[k].toNat≠0:=by intro h;rw [h] at h2;exact absurd h2 (by decide)
     have h3:128≤(s[k].toNat:Int):=by assumption
     go_round
     case rel=>exact ⟨k+1,by omega,by have:=H9.out;omega,by go_num,by rw [iS s k hlt hk9 (fun h=>absurd h H9.out)],by rw [HSC.out,du s k hlt,if_neg (by intro h;exact H9.out h.1),if_neg (by intro h;exact h2' h.2),if_neg (by omega)]⟩
     case measure=>simp [intOf];omega
    ·have h1:¬ 0<k:=by assumption
     have h3:(s[k].toNat:Int)<128:=by assumption
     go_ret3;exact ⟨fJ (jB (by rw [HSC.out,du s k hlt,if_neg (by intro h;exact H9.out h.1),if_neg (by omega),if_pos (by omega)])) (iS s k hlt hk9 (fun h=>absurd h H9.out)) rfl rfl,rfl⟩
    ·have h1:¬ 0<k:=by assumption
     have h3:128≤(s[k].toNat:Int):=by assumption
     go_round
     case rel=>exact ⟨k+1,by omega,by omega,by go_num,by rw [iS s k hlt hk9 (fun h=>absurd h H9.out)],by rw [HSC.out,du s k hlt,if_neg (by intro h;exact H9.out h.1),if_neg (by omega),if_neg (by omega)]⟩
     case measure=>simp [intOf];omega
  ·go_wp2;go_ret3;exact ⟨fJ (fC (by rw [HSC.out,DD (by simp;omega),scan])) rfl rfl rfl,rfl⟩
end
