import Derived.Test.YtagoidpkbloflaaGreatDoorKlq
import Derived.Test.YtagoidpkbloflaaGreatDoorKl11
namespace Go.Proofs.YtagoidpkbloflaaGreatDoor
open Lib (hid)
set_option maxRecDepth 100000
set_option maxHeartbeats 8000000
section
open Go.RowKit
theorem rM (a b:List UInt8) (s:ByteArray) (h:s.data.toList=b):(⟨a.toArray⟩:ByteArray)++s=⟨(a++b).toArray⟩:=by
 apply cX;rw [bE,h]
theorem k9 (n:Nat) (k:Int) (P:ByteArray) (w:World) (h:n≤1000000) (hk:(n:Int)=k) (hP:⟨(putL n).toArray⟩=P) :
 Calls Tryz.prog 93 #[.int .u64 k] w fun e w'=>e=.returned (.string P)∧Below w.heap.size w w':=by
 subst hk hP;exact ka n w (by omega)
theorem xx (t:Tok) (w:World) (hf:fine t) (hs:t.own.size≤20000) :
 Calls Tryz.prog 179 #[tokV t] w fun e w'=>e=.returned (.string ⟨(putT t).toArray⟩)∧Below w.heap.size w w':=by
 obtain ⟨s,b,z⟩:=t;rcases hf with ⟨h1,h2,h3⟩ | ⟨h1,h2,h3,h4,h5⟩
 ·simp only at h1 h2 h3 hs
  subst h2 h3;have e1:=m3 h1;have HP:Hid ((⟨(putL (2 * s.size)).toArray⟩:ByteArray)++s=⟨(putT ⟨s,0,0⟩).toArray⟩):=by
   have h:(⟨(putL (2 * s.size)).toArray⟩:ByteArray)++s=⟨(putT ⟨s,0,0⟩).toArray⟩:=by
    rw [jZ h1];exact rM _ _ _ rfl
   exact h
  have hl:=aK (n:=2 * s.size) (by omega);have hl2:(⟨(putL (2 * s.size)).toArray⟩:ByteArray).size≤10:=by rw [bm];exact hl
  obtain ⟨P,hP⟩:∃ P:ByteArray,⟨(putL (2 * s.size)).toArray⟩=P:=⟨_,rfl⟩;rw [hP] at HP hl2;have HPP:=hid hP;have k1:IntKind.u64.wrap (s.size:Int)=s.size:=DI _ (by omega);have k2:IntKind.u64.wrap (2 * (s.size:Int))=2 * s.size:=DI _ (by omega);have ksz:¬ (9223372036854775807<P.size+s.size):=by omega
  have c0:(w.alloc (.cells #[.string s,.int .i64 0,.int .i64 0] 142)).cell? ⟨w.heap.size,0,none⟩=some (.string s):=by simp
  have HQ:Hid (2 * s.size≤1000000∧((2 * s.size:Nat):Int)=2 * (s.size:Int)):=⟨by omega,by omega⟩;clear h1 hl hP;unfold tokV;go_enter Tryz.func179,Tryz.ntmps179
  go_wp2;go_region_held3 (fun w'=>w'.cell? ⟨w.heap.size,0,none⟩=some (.string s)) (first | exact c0 | exact c1) (first | (go_at_call 93;(with_reducible refine (k9 (2 * s.size) _ P _ HQ.out.1 HQ.out.2 HPP.out).mono ?_);rintro r w1 ⟨rfl,hb1⟩;have c1:w1.cell? ⟨w.heap.size,0,none⟩=some (.string s):=(hb1.cell (by simp)).trans c0;have HB1:Hid (Below w.heap.size w w1):=((((Below.refl _ _).alloc (Db _) _).drew).trans (hb1.mono (by simp)));clear hb1))
  go_wp2;go_ret;exact ⟨by rw [HP.out];rfl,HB1.out⟩
 ·simp only at h1 h2 h3 h4 h5
  obtain ⟨Z,rfl⟩:=DS (show 0≤z by omega);obtain ⟨B,rfl⟩:=DS (show 0≤b by omega);have e1:=lR h1;have HP:Hid ((⟨(putL (2 * (Z-4)+1)).toArray⟩:ByteArray)++⟨(putL (B-1)).toArray⟩=⟨(putT ⟨s,B,Z⟩).toArray⟩):=by
   have h:(⟨(putL (2 * (Z-4)+1)).toArray⟩:ByteArray)++⟨(putL (B-1)).toArray⟩=⟨(putT ⟨s,B,Z⟩).toArray⟩:=by
    rw [k7 h1];exact rM _ _ _ rfl
   exact h
  have hl:=aK (n:=2 * (Z-4)+1) (by omega);have hl':=aK (n:=B-1) (by omega);have hl2:(⟨(putL (2 * (Z-4)+1)).toArray⟩:ByteArray).size≤10:=by rw [bm];exact hl
  have hl3:(⟨(putL (B-1)).toArray⟩:ByteArray).size≤10:=by rw [bm];exact hl'
  obtain ⟨P,hP⟩:∃ P:ByteArray,⟨(putL (2 * (Z-4)+1)).toArray⟩=P:=⟨_,rfl⟩;obtain ⟨R,hR⟩:∃ R:ByteArray,⟨(putL (B-1)).toArray⟩=R:=⟨_,rfl⟩;rw [hP,hR] at HP;rw [hP] at hl2;rw [hR] at hl3;have HPP:=hid hP;have HRR:=hid hR;have k1:IntKind.i64.wrap ((Z:Int)-4)=(Z:Int)-4:=Dh _ (by omega);have k2:IntKind.u64.wrap ((Z:Int)-4)=(Z:Int)-4:=DI _ (by omega);have k3:IntKind.u64.wrap (2 * ((Z:Int)-4))=2 * ((Z:Int)-4):=DI _ (by omega);have k4:IntKind.u64.wrap (2 * ((Z:Int)-4)+1)=2 * ((Z:Int)-4)+1:=DI _ (by omega);have k5:IntKind.i64.wrap ((B:Int)-1)=(B:Int)-1:=Dh _ (by omega);have k6:IntKind.u64.wrap ((B:Int)-1)=(B:Int)-1:=DI _ (by omega);have ksz:¬ (9223372036854775807<P.size+R.size):=by omega
  have c0:(w.alloc (.cells #[.string s,.int .i64 B,.int .i64 Z] 142)).cell? ⟨w.heap.size,1,none⟩=some (.int .i64 B)∧(w.alloc (.cells #[.string s,.int .i64 B,.int .i64 Z] 142)).cell? ⟨w.heap.size,2,none⟩=some (.int .i64 Z):=by simp
  have HQ:Hid (2 * (Z-4)+1≤1000000∧((2 * (Z-4)+1:Nat):Int)=2 * ((Z:Int)-4)+1):=⟨by omega,by omega⟩;have HQ2:Hid (B-1≤1000000∧((B-1:Nat):Int)=(B:Int)-1):=⟨by omega,by omega⟩;clear h1 hl hl' hP hR;unfold tokV;go_enter Tryz.func179,Tryz.ntmps179
  go_wp2;go_region_held3 (fun w'=>w'.cell? ⟨w.heap.size,1,none⟩=some (.int .i64 B)∧w'.cell? ⟨w.heap.size,2,none⟩=some (.int .i64 Z)) (first | exact c0 | exact c1 | exact c2) (first | (go_at_call 93;(with_reducible refine (k9 (2 * (Z-4)+1) _ P _ HQ.out.1 HQ.out.2 HPP.out).mono ?_);rintro r w1 ⟨rfl,hb1⟩;have c1:w1.cell? ⟨w.heap.size,1,none⟩=some (.int .i64 B)∧w1.cell? ⟨w.heap.size,2,none⟩=some (.int .i64 Z):=⟨(hb1.cell (by simp)).trans c0.1,(hb1.cell (by simp)).trans c0.2⟩;have HB1:Hid (Below w.heap.size w w1):=((((Below.refl _ _).alloc (Db _) _).drew).trans (hb1.mono (by simp)));have HZ1:Hid (w.heap.size<w1.heap.size):=(Dv (by simp) hb1.size);clear hb1) | (go_at_call 93;(with_reducible refine (k9 (B-1) _ R _ HQ2.out.1 HQ2.out.2 HRR.out).mono ?_);rintro r w2 ⟨rfl,hb2⟩;have c2:w2.cell? ⟨w.heap.size,1,none⟩=some (.int .i64 B)∧w2.cell? ⟨w.heap.size,2,none⟩=some (.int .i64 Z):=⟨(hb2.cell HZ1.out).trans c1.1,(hb2.cell HZ1.out).trans c1.2⟩;have HB2:Hid (Below w.heap.size w w2):=HB1.out.trans (hb2.mono HB1.out.size);clear hb2))
  go_wp2;go_ret;exact ⟨by rw [HP.out];rfl,HB2.out⟩
end
section
open Go.RowKit
theorem atIs.place {w:World} {v:Value} {e:Nat} {pl:Int} (h:atIs w v (e,pl)):dW w v e pl:=by
 rcases h with ⟨h1,h2⟩ | ⟨_,b,h1,_,h3,h4⟩
 ·simp only [Dz] at h1
  exact .inl ⟨h2,by omega,h1.2⟩
 ·exact .inr (.inr ⟨b,0,h1,h3,h4⟩)
theorem atIs.isErr {w:World} {v:Value} {r:Nat×Int} (h:atIs w v r) (h0:r.1≠0):isErr w v (r.1:Nat):=by
 rcases h with ⟨h1,h2⟩ | ⟨_,b,h1,_,h3,h4⟩
 ·exact absurd (by rw [h1]) h0
 ·exact .inr ⟨b,0,_,h1,h3,h4⟩
def az (w:World) (v:Value) (r:Nat×Int):Prop:=atIs w v r∨(r.1≠0∧r.2=-1∧v=.iface 26 (.int .i64 (r.1:Nat)))
theorem az.below {w w':World} {v:Value} {r:Nat×Int} (h:az w v r) (hb:Below w.heap.size w w'):az w' v r:=by
 rcases h with h | h
 ·exact .inl (h.below hb)
 ·exact .inr h
theorem az.nil {w:World} {v:Value} {r:Nat×Int} (h:az w v r) (h0:r.1=0):v=.nilIface:=by
 rcases h with (⟨_,h⟩ | ⟨h,_⟩) | ⟨h,_⟩
 ·exact h
 ·exact absurd h0 h
 ·exact absurd h0 h
theorem az.iface {w:World} {v:Value} {r:Nat×Int} (h:az w v r) (h0:r.1≠0):∃ t u,v=.iface t u:=by
 rcases h with (⟨h,_⟩ | ⟨_,b,h,_⟩) | ⟨_,_,h⟩
 ·exact absurd (by rw [h]) h0
 ·exact ⟨_,_,h⟩
 ·exact ⟨_,_,h⟩
theorem az.place {w:World} {v:Value} {e:Nat} {pl:Int} (h:az w v (e,pl)):dW w v e pl:=by
 rcases h with h | ⟨_,h1,h2⟩
 ·exact h.place
 ·exact .inr (.inl ⟨h2,h1⟩)
theorem az.isErr {w:World} {v:Value} {r:Nat×Int} (h:az w v r) (h0:r.1≠0):isErr w v (r.1:Nat):=by
 rcases h with h | ⟨_,h1,h2⟩
 ·exact h.isErr h0
 ·exact .inl h2
def gJ (w:World) (r:Nat×Int) (e:Ending) (w':World):Prop :=
 ∃ v,e=.returned v∧az w' v r∧Below w.heap.size w w'
theorem bQ {w w':World} (h:Below w.drew.heap.size w.drew w'):Below w.heap.size w w':=((Below.refl _ _).drew).trans h
theorem tQ {w w':World} {B:Nat} (h:Below B w w') (q:Nat):Below B w (w'.drewN q):=by
 induction q with
 | zero=>exact h
 | succ q ih=>exact ih.drew
end
section
def dl:Int→List Ent→Prop
 | _,[]=>True
 | r,e::t=>e.rep=r∧dl (r+1) t
theorem p8 {l:List Ent} {e:Ent}:∀ {r:Int},dl r l→e.rep=r+l.length→dl r (l++[e]):=by
 induction l with
 | nil=>intro r _ h;exact ⟨by simpa using h,trivial⟩
 | cons d t ih=>intro r h he;exact ⟨h.1,ih h.2 (by rw [he,DM];omega)⟩
theorem uO {l:List Ent} {r:Int} (h:dl r l) (h0:l≠[]):(l.headD ⟨0,0⟩).rep=r:=by
 cases l with
 | nil=>exact absurd rfl h0
 | cons e t=>exact h.1
theorem gR {l:List Ent}:∀ {r:Int},dl r l→l≠[]→(l.getLastD ⟨0,0⟩).rep=r+l.length-1:=by
 induction l with
 | nil=>intro r _ h0;exact absurd rfl h0
 | cons e t ih =>
  intro r h _;cases t with
  | nil=>have:=h.1;simp;omega
  | cons d u =>
   have h3:=ih h.2 (by simp);rw [List.getLastD_cons] at h3 ⊢;rw [List.getLastD_cons];simp only [DM] at h3 ⊢
   omega
def eq:Int→List (List Ent)→Prop
 | _,[]=>True
 | least,run::rs=>run≠[]∧least≤(run.headD ⟨0,0⟩).rep∧dl (run.headD ⟨0,0⟩).rep run∧eq ((run.getLastD ⟨0,0⟩).rep+2) rs
def cutA:List Ent→List Ent→List (List Ent)
 | _,[]=>[]
 | cur,[e]=>[cur++[e]]
 | cur,e::d::r=>if e.rep+1<d.rep then (cur++[e])::cutA [] (d::r) else cutA (cur++[e]) (d::r)
def aM (l:List Ent):List (List Ent):=cutA [] l
theorem pd (cur:List Ent) (e:Ent):cutA cur [e]=[cur++[e]]:=rfl
theorem jr {cur r:List Ent} {e d:Ent} (h:e.rep+1<d.rep):cutA cur (e::d::r)=(cur++[e])::cutA [] (d::r):=by rw [cutA,if_pos h]
theorem js {cur r:List Ent} {e d:Ent} (h:¬ e.rep+1<d.rep):cutA cur (e::d::r)=cutA (cur++[e]) (d::r):=by rw [cutA,if_neg h]
theorem jH {l:List Ent} (m:List Ent) (h:l≠[]) (d:Ent):(l++m).headD d=l.headD d:=by
 cases l with
 | nil=>exact absurd rfl h
 | cons e t=>rfl
theorem jC (l:List Ent) (e d:Ent):(l++[e]).getLastD d=e:=by
 simp
theorem uW (r:List Ent):∀ (cur:List Ent) (e:Ent) (least last:Int),okV last (e::r)→(cur=[]→least≤e.rep)→(cur≠[]→least≤(cur.headD ⟨0,0⟩).rep∧dl (cur.headD ⟨0,0⟩).rep cur∧e.rep=(cur.headD ⟨0,0⟩).rep+cur.length) →
 eq least (cutA cur (e::r))∧(cutA cur (e::r)).flatten=cur++e::r:=by
 induction r with
 | nil =>
  intro cur e least last h h0 h1;rw [pd];refine ⟨⟨by simp,?_,?_,trivial⟩,by simp⟩
  ·by_cases hc:cur=[]
   ·subst hc;exact h0 rfl
   ·rw [jH _ hc];exact (h1 hc).1
  ·by_cases hc:cur=[]
   ·subst hc;exact ⟨rfl,trivial⟩
   ·rw [jH _ hc];exact p8 (h1 hc).2.1 (h1 hc).2.2
 | cons d r ih =>
  intro cur e least last h h0 h1;have hd:=h.2.1;rw [lm] at hd;have hcons:dl ((cur++[e]).headD ⟨0,0⟩).rep (cur++[e]):=by
   by_cases hc:cur=[]
   ·subst hc;exact ⟨rfl,trivial⟩
   ·rw [jH _ hc];exact p8 (h1 hc).2.1 (h1 hc).2.2
  have hlow:least≤((cur++[e]).headD ⟨0,0⟩).rep:=by
   by_cases hc:cur=[]
   ·subst hc;exact h0 rfl
   ·rw [jH _ hc];exact (h1 hc).1
  by_cases hg:e.rep+1<d.rep
  ·rw [jr hg];obtain ⟨i1,i2⟩:=ih [] d (e.rep+2) e.rep h.2 (fun _=>by omega) (fun hn=>absurd rfl hn);refine ⟨⟨by simp,hlow,hcons,?_⟩,?_⟩
   ·rw [jC];exact i1
   ·rw [EG,i2];simp
  ·rw [js hg];obtain ⟨i1,i2⟩:=ih (cur++[e]) d least e.rep h.2 (fun hn=>absurd hn (by simp)) (fun _=>⟨hlow,hcons,by
    have:=gR hcons (by simp);rw [jC] at this;omega⟩)
   exact ⟨i1,by rw [i2];simp⟩
theorem ko {l:List Ent} (h:okV (-1) l):eq 0 (aM l)∧(aM l).flatten=l:=by
 cases l with
 | nil=>exact ⟨trivial,rfl⟩
 | cons e r =>
  have:=h.1;rw [lm] at this;have h2:=uW r [] e 0 (-1) h (fun _=>by omega) (fun hn=>absurd rfl hn);exact h2
theorem uX (run:List Ent):∀ (cur:List Ent) (r:Int) (rest:List Ent),dl r run→run≠[]→(∀ e t,rest=e::t→(run.getLastD ⟨0,0⟩).rep+1<e.rep) →
 cutA cur (run++rest)=(cur++run)::cutA [] rest:=by
 induction run with
 | nil=>intro _ _ _ _ h;exact absurd rfl h
 | cons e t ih =>
  intro cur r rest h _ hr;cases t with
  | nil =>
   cases rest with
   | nil=>rfl
   | cons d u =>
    have:=hr d u rfl;exact jr (by simpa using this)
  | cons d u =>
   have e1:=h.1;have e2:=h.2.1;show cutA cur (e::d::(u++rest))=_
   rw [js (by omega)];have:=ih (cur++[e]) (r+1) rest h.2 (by simp) (fun x y hx=>by
    have:=hr x y hx;rw [List.getLastD_cons,List.getLastD_cons] at this;rw [List.getLastD_cons];exact this)
   rw [show d::(u++rest)=(d::u)++rest from rfl,this];simp
theorem Ar {R:List (List Ent)}:∀ {least:Int},eq least R→aM R.flatten=R:=by
 induction R with
 | nil=>intro _ _;rfl
 | cons run rs ih =>
  intro least h;obtain ⟨h1,h2,h3,h4⟩:=h;unfold aM;rw [EG,uX run [] _ _ h3 h1]
  ·have:=ih h4;unfold aM at this;rw [this];rfl
  ·intro e t he;cases rs with
   | nil=>cases he
   | cons run2 rs2 =>
    obtain ⟨g1,g2,g3,_⟩:=h4;rw [EG] at he;cases run2 with
    | nil=>exact absurd rfl g1
    | cons d u =>
     simp only [List.cons_append,List.cons.injEq] at he
     obtain ⟨rfl,_⟩:=he;simp only [List.headD_cons] at g2
     omega
def aN (l:List Ent):List UInt8:=l.flatMap fun e=>putL e.time.toNat
def runB (least:Int) (run:List Ent):List UInt8:=putL ((run.headD ⟨0,0⟩).rep-least).toNat++putL (run.length-1)++aN run
def bg:Int→List (List Ent)→List UInt8
 | _,[]=>[]
 | least,run::rs=>runB least run++bg ((run.getLastD ⟨0,0⟩).rep+2) rs
def aC (l:List Ent):List UInt8:=putL (aM l).length++bg 0 (aM l)
def cj (l:List Ent):List UInt8:=if (au l).1=0 then aC l else []
theorem s3 (e:Ent) (l:List Ent):aN (e::l)=putL e.time.toNat++aN l:=by simp [aN]
theorem ng (a b:List Ent):aN (a++b)=aN a++aN b:=by simp [aN]
def tmA:Nat→List UInt8→Nat→Int→List Ent→Nat ⊕ (List Ent×Nat)
 | 0,_,used,_,acc=>.inr (acc,used)
 | k+1,s,used,r,acc =>
  if (intL s 1099511627776).2.2≠0 then .inl (intL s 1099511627776).2.2
  else tmA k (s.drop (intL s 1099511627776).2.1) (used+(intL s 1099511627776).2.1) (r+1) (acc++[⟨r,(intL s 1099511627776).1⟩])
theorem gx {k:Nat} {s:List UInt8} {used e:Nat} {r:Int} {acc:List Ent} (h:intL s 1099511627776=(0,0,e)) (he:e≠0):tmA (k+1) s used r acc=.inl e:=by
 rw [tmA,h,if_pos he]
theorem gy {k:Nat} {s:List UInt8} {used n j:Nat} {r:Int} {acc:List Ent} (h:intL s 1099511627776=(n,j,0)):tmA (k+1) s used r acc=tmA k (s.drop j) (used+j) (r+1) (acc++[⟨r,n⟩]):=by
 rw [tmA,h,if_neg (by simp)]
def getR (s:List UInt8) (used:Nat) (least:Int) (acc:List Ent):Nat ⊕ (List Ent×Nat) :=
 if (intL s 200).2.2≠0 then .inl (intL s 200).2.2
 else if (intL (s.drop (intL s 200).2.1) 16).2.2≠0 then .inl (intL (s.drop (intL s 200).2.1) 16).2.2
 else tmA ((intL (s.drop (intL s 200).2.1) 16).1+1) ((s.drop (intL s 200).2.1).drop (intL (s.drop (intL s 200).2.1) 16).2.1) (used+(intL s 200).2.1+(intL (s.drop (intL s 200).2.1) 16).2.1) (least+(intL s 200).1) acc
theorem gZ {s:List UInt8} {used e:Nat} {least:Int} {acc:List Ent} (h:intL s 200=(0,0,e)) (he:e≠0):getR s used least acc=.inl e:=by
 unfold getR;rw [h,if_pos he]
theorem hH {s:List UInt8} {used e g j:Nat} {least:Int} {acc:List Ent} (h:intL s 200=(g,j,0)) (h2:intL (s.drop j) 16=(0,0,e)) (he:e≠0):getR s used least acc=.inl e:=by
 unfold getR;rw [h];simp only;rw [h2,if_neg (by simp),if_pos he]
theorem i7 {s:List UInt8} {used g j c i:Nat} {least:Int} {acc:List Ent} (h:intL s 200=(g,j,0)) (h2:intL (s.drop j) 16=(c,i,0)):getR s used least acc=tmA (c+1) ((s.drop j).drop i) (used+j+i) (least+g) acc:=by
 unfold getR;rw [h];simp only;rw [h2,if_neg (by simp),if_neg (by simp)]
def rdA:Nat→List UInt8→Nat→Int→List Ent→Nat ⊕ (List Ent×Nat)
 | 0,_,used,_,acc=>.inr (acc,used)
 | k+1,s,used,least,acc=>match getR s 0 least [] with
  | .inl e=>.inl e
  | .inr (run,j)=>rdA k (s.drop j) (used+j) ((run.getLastD ⟨0,0⟩).rep+2) (acc++run)
theorem fd {k:Nat} {s:List UInt8} {used e:Nat} {least:Int} {acc:List Ent} (h:getR s 0 least []=.inl e):rdA (k+1) s used least acc=.inl e:=by rw [rdA,h]
theorem gl {k:Nat} {s:List UInt8} {used j:Nat} {least:Int} {acc run:List Ent} (h:getR s 0 least []=.inr (run,j)):rdA (k+1) s used least acc=rdA k (s.drop j) (used+j) ((run.getLastD ⟨0,0⟩).rep+2) (acc++run):=by rw [rdA,h]
def aj (s:List UInt8):Nat×Nat×List Ent :=
 if (intL s 16).2.2≠0 then ((intL s 16).2.2,0,[]) else match rdA (intL s 16).1 (s.drop (intL s 16).2.1) (intL s 16).2.1 0 [] with
  | .inl e=>(e,0,[])
  | .inr (l,n)=>if (au l).1≠0 then ((au l).1,0,[]) else (0,n,l)
theorem lc {s:List UInt8} {e:Nat} (h:intL s 16=(0,0,e)) (he:e≠0):aj s=(e,0,[]):=by unfold aj;rw [h,if_pos he]
theorem fS {s:List UInt8} {k j e:Nat} (h:intL s 16=(k,j,0)) (h2:rdA k (s.drop j) j 0 []=.inl e):aj s=(e,0,[]):=by unfold aj;rw [h,if_neg (by simp)];simp only;rw [h2]
theorem lf {s:List UInt8} {k j n:Nat} {l:List Ent} (h:intL s 16=(k,j,0)) (h2:rdA k (s.drop j) j 0 []=.inr (l,n)) (h3:(au l).1≠0):aj s=((au l).1,0,[]):=by
 unfold aj;rw [h,if_neg (by simp)];simp only;rw [h2];simp only;rw [if_pos h3]
theorem ld {s:List UInt8} {k j n:Nat} {l:List Ent} (h:intL s 16=(k,j,0)) (h2:rdA k (s.drop j) j 0 []=.inr (l,n)) (h3:(au l).1=0):aj s=(0,n,l):=by
 unfold aj;rw [h,if_neg (by simp)];simp only;rw [h2];simp only;rw [if_neg (by simpa using h3)]
theorem ar (l:List UInt8) (most:Int):(∃ e,intL l most=(0,0,e)∧e≠0∧(e=7∨e=4∨e=3∨e=2))∨∃ n k,intL l most=(n,k,0)∧(n:Int)≤most∧1≤k∧k≤10∧k≤l.length∧putL n=l.take k:=by
 rcases cu l with ⟨e,hg,he⟩ | ⟨n,k,hg,hn,hk1,hk2,hk3⟩
 ·have h3:=vX l;rw [hg] at h3;simp only at h3
  exact .inl ⟨e,f8 hg he,he,by omega⟩
 ·by_cases hm:most<0∨most<n
  ·exact .inl ⟨2,dG hg hm,by decide,by omega⟩
  ·exact .inr ⟨n,k,eo hg hm,by omega,hk1,hk2,hk3,(fD hg).2.2⟩
theorem BE (k:Nat):∀ (s:List UInt8) (used:Nat) (r:Int) (acc l:List Ent) (n:Nat),tmA k s used r acc=.inr (l,n) →
 ∃ run,l=acc++run∧run.length=k∧dl r run∧used≤n∧n≤used+s.length∧aN run=s.take (n-used)∧∀ e∈run,0≤e.time∧e.time≤1099511627776:=by
 induction k with
 | zero =>
  intro s used r acc l n h;rw [tmA] at h;injection h with h
  injection h with h1 h2
  subst h1;subst h2;exact ⟨[],by simp,rfl,trivial,Db _,by omega,by simp [aN],fun e h=>by cases h⟩
 | succ k ih =>
  intro s used r acc l n h;rcases ar s 1099511627776 with ⟨e,hi,he,_⟩ | ⟨t,j,hi,ht,hj1,hj2,hj3,hp⟩
  ·rw [gx hi he] at h;cases h
  ·rw [gy hi] at h;obtain ⟨run,rfl,h2,h3,h4,h5,h6,h7⟩:=ih _ _ _ _ _ _ h;rw [Dj] at h5;refine ⟨⟨r,t⟩::run,by simp,by simp [h2],⟨rfl,h3⟩,by omega,by omega,?_,?_⟩
   ·rw [s3,h6];simp only [E2]
    rw [hp,←Ez,show j+(n-(used+j))=n-used by omega]
   ·intro e he;rcases Et.1 he with rfl | he
    ·simp only;omega
    ·exact h7 e he
theorem pz {s:List UInt8} {used n:Nat} {least:Int} {acc l:List Ent} (h:getR s used least acc=.inr (l,n)) :
 ∃ run,l=acc++run∧run≠[]∧run.length≤17∧least≤(run.headD ⟨0,0⟩).rep∧(run.headD ⟨0,0⟩).rep≤least+200∧dl (run.headD ⟨0,0⟩).rep run∧used≤n∧n≤used+s.length∧runB least run=s.take (n-used)∧∀ e∈run,0≤e.time∧e.time≤1099511627776:=by
 rcases ar s 200 with ⟨e,hi,he,_⟩ | ⟨g,j,hi,hg,hj1,hj2,hj3,hp⟩
 ·rw [gZ hi he] at h;cases h
 ·rcases ar (s.drop j) 16 with ⟨e,hi2,he,_⟩ | ⟨c,i,hi2,hc,hi1,hi3,hi4,hp2⟩
  ·rw [hH hi hi2 he] at h;cases h
  ·rw [i7 hi hi2] at h;obtain ⟨run,rfl,h2,h3,h4,h5,h6,h7⟩:=BE _ _ _ _ _ _ _ h;have hne:run≠[]:=by intro e;rw [e] at h2;simp at h2
   have hh:=uO h3 hne;rw [Dj] at hi4;rw [Dj,Dj] at h5;refine ⟨run,rfl,hne,by omega,by omega,by omega,by rw [hh];exact h3,by omega,by omega,?_,h7⟩;unfold runB;rw [hh,h6,show (least+(g:Int)-least).toNat=g by omega,show run.length-1=c by omega,hp,hp2,←Ez,Dy,←Ez]
   congr 1;omega
theorem zo (k:Nat):∀ (s:List UInt8) (used:Nat) (least:Int) (acc l:List Ent) (n:Nat),rdA k s used least acc=.inr (l,n) →
 ∃ R,l=acc++R.flatten∧R.length=k∧eq least R∧used≤n∧n≤used+s.length∧bg least R=s.take (n-used):=by
 induction k with
 | zero =>
  intro s used least acc l n h;rw [rdA] at h;injection h with h
  injection h with h1 h2
  subst h1;subst h2;exact ⟨[],by simp,rfl,trivial,Db _,by omega,by simp [bg]⟩
 | succ k ih =>
  intro s used least acc l n h
  match hg:getR s 0 least [] with
  | .inl e=>rw [fd hg] at h;cases h
  | .inr (run,j) =>
   rw [gl hg] at h;obtain ⟨run',hr,g1,_,g3,_,g4,g5,g6,g7,g8⟩:=pz hg;rw [E7] at hr;subst hr;obtain ⟨R,rfl,h2,h3,h4,h5,h6⟩:=ih _ _ _ _ _ _ h;rw [Dj] at h5;refine ⟨run::R,by simp,by simp [h2],⟨g1,g3,g4,h3⟩,by omega,by omega,?_⟩;rw [bg,g7,h6,Nat.sub_zero,←Ez]
   congr 1;omega
theorem fh {s:List UInt8} {n:Nat} {l:List Ent} (h:aj s=(0,n,l)):cG l∧1≤n∧n≤s.length∧aC l=s.take n:=by
 rcases ar s 16 with ⟨e,hi,he,_⟩ | ⟨k,j,hi,hk,hj1,hj2,hj3,hp⟩
 ·rw [lc hi he] at h;simp only [Dz] at h
  exact absurd h.1 he
 ·match hr:rdA k (s.drop j) j 0 [] with
  | .inl e =>
   rw [fS hi hr] at h;simp only [Dz] at h
   obtain ⟨rfl,_⟩:=h;exact absurd hr (by
    have hgr:∀ (s:List UInt8) (least:Int),getR s 0 least []≠.inl 0:=by
     have htm:∀ (k:Nat) (s:List UInt8) (used:Nat) (r:Int) (acc:List Ent),tmA k s used r acc≠.inl 0:=by
      intro k
      induction k with
      | zero=>intro s used r acc h;cases h
      | succ k ih =>
       intro s used r acc h;rcases ar s 1099511627776 with ⟨e,hi,he,_⟩ | ⟨t,j,hi,_⟩
       ·rw [gx hi he] at h;injection h with h;exact he h
       ·rw [gy hi] at h;exact ih _ _ _ _ h
     intro s least h;rcases ar s 200 with ⟨e,hi,he,_⟩ | ⟨g,j,hi,_⟩
     ·rw [gZ hi he] at h;injection h with h;exact he h
     ·rcases ar (s.drop j) 16 with ⟨e,hi2,he,_⟩ | ⟨c,i,hi2,_⟩
      ·rw [hH hi hi2 he] at h;injection h with h;exact he h
      ·rw [i7 hi hi2] at h;exact htm _ _ _ _ _ h
    have:∀ (k:Nat) (s:List UInt8) (used:Nat) (least:Int) (acc:List Ent),rdA k s used least acc≠.inl 0:=by
     intro k
     induction k with
     | zero=>intro s used least acc h;cases h
     | succ k ih =>
      intro s used least acc h
      match hg:getR s 0 least [] with
      | .inl e=>rw [fd hg] at h;injection h with h;subst h;exact hgr _ _ hg
      | .inr (run,j)=>rw [gl hg] at h;exact ih _ _ _ _ h
    exact this _ _ _ _ _)
  | .inr (m,i) =>
   by_cases hw:(au m).1=0
   ·rw [ld hi hr hw] at h;simp only [Dz,true_and] at h
    obtain ⟨rfl,rfl⟩:=h;obtain ⟨R,hl,h2,h3,h4,h5,h6⟩:=zo _ _ _ _ _ _ _ hr;rw [E7] at hl;rw [Dj] at h5;refine ⟨(ec m).1 hw,by omega,by omega,?_⟩;have e1:=Ar h3;rw [←hl] at e1;unfold aC;rw [e1,h2,h6,hp,←Ez]
    congr 1;omega
   ·rw [lf hi hr hw] at h;simp only [Dz] at h
    exact absurd h.1 hw
end
section
open Go.RowKit
def cT (l:List UInt8):List UInt8:=putL l.length++l
def bT (s:ByteArray):ByteArray:=⟨(putL s.size).toArray⟩++s
theorem kC (s:ByteArray):(bT s).data.toList=cT s.data.toList:=by unfold bT cT;rw [bE,←ac]
theorem ru (s:ByteArray):(bT s).size=(putL s.size).length+s.size:=by unfold bT;rw [eO,bm]
def getS (l:List UInt8):List UInt8×Nat×Nat :=
 if (getL l).2.2≠0 then ([],0,(getL l).2.2) else if 2000<(getL l).1 then ([],0,4) else if l.length<(getL l).2.1+(getL l).1 then ([],0,7)
 else ((l.drop (getL l).2.1).take (getL l).1,(getL l).2.1+(getL l).1,0)
theorem g9 {l:List UInt8} {e:Nat} (h:getL l=(0,0,e)) (he:e≠0):getS l=([],0,e):=by
 unfold getS;rw [h];rw [if_pos (by exact he)]
theorem ga {l:List UInt8} {n k:Nat} (h:getL l=(n,k,0)) (hn:2000<n):getS l=([],0,4):=by
 unfold getS;rw [h];rw [if_neg (by simp),if_pos (by exact hn)]
theorem gb {l:List UInt8} {n k:Nat} (h:getL l=(n,k,0)) (hn:¬ 2000<n) (hl:l.length<k+n):getS l=([],0,7):=by
 unfold getS;rw [h];rw [if_neg (by simp),if_neg (by exact hn),if_pos (by exact hl)]
theorem gc {l:List UInt8} {n k:Nat} (h:getL l=(n,k,0)) (hn:¬ 2000<n) (hl:¬ l.length<k+n):getS l=((l.drop k).take n,k+n,0):=by
 unfold getS;rw [h];rw [if_neg (by simp),if_neg (by exact hn),if_neg (by exact hl)]
def dv (r:List UInt8×Nat×Nat):Value:=.tuple #[.string ⟨r.1.toArray⟩,.int .i64 r.2.1,errV r.2.2]
def dJ (r:List UInt8×Nat×Nat):Value:=.tuple #[.string ⟨r.1.toArray⟩,.int .i64 r.2.1,.int .i64 r.2.2]
theorem p6 (s:ByteArray) (w:World) (hs:s.size≤281474976710656) :
 Calls Tryz.prog 102 #[.string s] w fun e w'=>e=.returned (.string s)∧Below w.heap.size w w':=by
 go_enter Tryz.func102,Tryz.ntmps102
 go_wp2_with fail
 refine (Tryz.stringslite_Clone s _ hs).mono ?_;rintro r w1 ⟨rfl,hb⟩;have HB:=hid hb;clear hb;go_wp2;go_ret;exact ⟨rfl,HB.out⟩
theorem rx (s:ByteArray) (w:World) (hs:s.size≤2000) :
 Calls Tryz.prog 134 #[.string s] w fun r w'=>r=.returned (.tuple #[.string (bT s),.nilIface])∧Below w.heap.size w w':=by
 have hl:=aK (n:=s.size) (by omega);have HP:Hid (bT s=⟨(putL s.size).toArray⟩++s):=rfl;go_enter Tryz.func134,Tryz.ntmps134
 go_wp2_with (go_at_call 93;refine (ka s.size _ (by omega)).mono ?_;rintro r w1 ⟨rfl,hb1⟩)
 go_ret2;exact ⟨by rw [HP.out];rfl,by assumption⟩
theorem kA (s:ByteArray) (w:World) (hs:s.size≤140737488351232) :
 Calls Tryz.prog 119 #[.string s] w fun r w'=>r=.returned (dv (getS s.data.toList))∧Below w.heap.size w w':=by
 have hs2:s.size≤maxLen:=by unfold maxLen;omega
 rcases cu s.data.toList with ⟨e,hg,he⟩ | ⟨n,k,hg,hn,hk1,hk2,hk3⟩
 ·have HP : Hid (dv (getS s.data.toList) = .tuple #[.string ⟨#[]⟩, .int .i64 0, .iface 26 (.int .i64 e)]) := by
   show dv _=_
   rw [g9 hg he];unfold dv errV;rw [if_neg he];rfl
  have HG:=hid hg;clear hg;rw [HP.out];go_enter Tryz.func119,Tryz.ntmps119
  go_wp2_with (go_at_call 103;refine (mi _ _ hs2 e HG.out he).mono ?_;rintro r w' ⟨rfl,rfl⟩)
  go_ret3;exact ⟨rfl,Below.refl _ _⟩
 ·rw [←ac] at hk3;by_cases h2:2000<n
  ·have HP : Hid (dv (getS s.data.toList) = .tuple #[.string ⟨#[]⟩, .int .i64 0, .iface 26 (.int .i64 4)]) := by
    show dv _=_
    rw [ga hg h2];rfl
   have HG:=hid hg;clear hg;rw [HP.out];go_enter Tryz.func119,Tryz.ntmps119
   go_wp2_with (go_at_call 103;refine (dm _ _ hs2 n k HG.out).mono ?_;rintro r w' ⟨rfl,rfl⟩)
   go_ret3;exact ⟨rfl,Below.refl _ _⟩
  ·have h2':n≤2000:=by omega
   by_cases h3:s.size<k+n
   ·have HP : Hid (dv (getS s.data.toList) = .tuple #[.string ⟨#[]⟩, .int .i64 0, .iface 26 (.int .i64 7)]) := by
     show dv _=_
     rw [gb hg h2 (by rw [←ac];exact h3)];rfl
    have HG:=hid hg;clear hg h2;rw [HP.out];go_enter Tryz.func119,Tryz.ntmps119
    go_wp2_with (go_at_call 103;refine (dm _ _ hs2 n k HG.out).mono ?_;rintro r w' ⟨rfl,rfl⟩)
    go_ret3;exact ⟨rfl,Below.refl _ _⟩
   ·have hx:s.extract k (k+n)=⟨((s.data.toList.drop k).take n).toArray⟩:=cX (by rw [cE,List.drop_take,Nat.add_sub_cancel_left]);have hxs:(s.extract k (k+n)).size≤281474976710656:=by rw [DJ];omega
    have HP:Hid (dv (getS s.data.toList)=.tuple #[.string (s.extract k (k+n)),.int .i64 ((k:Int)+n),.nilIface]):=by
     show dv _=_
     rw [gc hg h2 (by rw [←ac];exact h3),hx];rfl
    have HG:=hid hg;have h3':k+n≤s.size:=by omega
    clear hg h2 h3 hx;rw [HP.out];go_enter Tryz.func119,Tryz.ntmps119
    go_wp2_with (first | (go_at_call 103;refine (dm _ _ hs2 n k HG.out).mono ?_;rintro r w' ⟨rfl,rfl⟩) | (go_at_call 102;refine (p6 _ _ hxs).mono ?_;rintro r w1 ⟨rfl,hb1⟩))
    go_ret3;exact ⟨rfl,by assumption⟩
end
section
open Go.RowKit
def NonB (b:Nat) (w w':World):Prop:=∀ k,k<w.heap.size→k≠b→(∀ cs fz,w.heap[k]? ≠ some (.cells cs 5 fz))→w'.heap[k]? = w.heap[k]?
theorem NonB.of {b:Nat} {w w':World} (h:Below w.heap.size w w'):NonB b w w':=fun k hk _ _=>h.block k hk
theorem NonB.trans {b:Nat} {w w1 w2:World} (h:NonB b w w1) (k:NonB b w1 w2) (hs:w.heap.size≤w1.heap.size):NonB b w w2:=fun i hi hb hu=>by
 have e:=h i hi hb hu;exact (k i (by omega) hb (fun cs fz=>by rw [e];exact hu cs fz)).trans e
theorem NonB.row {b:Nat} {w w':World} {base size n:Nat} {e:TypeId} {v:Value} {xs:List Value} (h:NonB b w w') (ho:w.ownsRow base e size v n xs) (he:e≠5) (hb:v.ownBlock≠some b):w'.ownsRow base e size v n xs:=by
 have hlt:=DQ ho;refine ⟨ho.1,?_⟩;rcases ho.2 with h1 | ⟨g,cap,cur,hv,hbg,hh,r⟩
 ·exact .inl h1
 ·subst hv;refine .inr ⟨g,cap,cur,rfl,hbg,?_,r⟩;rw [h g (hlt g rfl).2 (fun hc=>hb (by rw [hc];rfl)) (fun cs fz hc=>by rw [hh] at hc;injection hc with hc;injection hc with _ ht;exact he ht)];exact hh
theorem uQ (B b:Nat) (l:List UInt8) (w:World) (h:b6 w B b l) :
 Calls Tryz.prog 170 #[.pointer (some ⟨b,0,none⟩)] w fun e w'=>e=.returned (.tuple #[])∧Lib.BuilderAt 184 5 B b (.pointer (some ⟨b,0,none⟩)) (Lib.byteCells l) w'∧Below B w w'∧NonB b w w'∧w'.heap.size=w.heap.size:=by
 rcases h with h | h
 ·refine (p9 b w h.cell0 h.shape h.frozen0).mono ?_;rintro e w' ⟨rfl,rfl⟩;exact ⟨rfl,h.used _,(Below.refl B w).setCell (p:=⟨b,0,none⟩) h.1 _,fun k _ hk _=>Eh _ _ _ _ (fun e=>hk e),by simp⟩
 ·refine (lN b w h.cell0).mono ?_;rintro e w' ⟨rfl,rfl⟩;exact ⟨rfl,h,Below.refl B _,fun k _ _ _=>rfl,rfl⟩
theorem ue (B b:Nat) (l:List UInt8) (s:ByteArray) (w:World) (h:b6 w B b l) (hlen:l.length+s.size≤140737488355328) (hBw:B≤w.heap.size) :
 Calls Tryz.prog 126 #[.pointer (some ⟨b,0,none⟩),.string s] w fun e w'=>e=.returned (.tuple #[.int .i64 s.size,.nilIface])∧b6 w' B b (l++s.data.toList)∧Below B w w'∧NonB b w w':=by
 obtain ⟨i0,hi,hz0,hz1,hz2⟩:=DU fF;have hbl:(Lib.byteCells l).length=l.length:=by simp [Lib.byteCells]
 go_enter Tryz.func126,Tryz.ntmps126
 go_wp2_with fail
 refine (uQ B b l _ h).mono ?_;rintro e w1 ⟨rfl,h1,hb1,hn1,hs1⟩;have HN1:=hid hn1;have HS1:=hid hs1;obtain ⟨hB,v,hbk,hown,hne⟩:=h1;have c0:w1.cell? ⟨b,0,none⟩=some (.pointer (some ⟨b,0,none⟩)):=by rw [Lib.cell_of_heap hbk];rfl
 have c1:w1.cell? ⟨b,1,none⟩=some v:=by rw [Lib.cell_of_heap hbk];rfl
 clear hn1 hs1;go_wp2_with (at_builtin;refine Lib.wpList_append_own_string _ rfl _ _ 94 9 rfl B 5 i0 Tryz.underlying94 Tryz.underlying9 hi hz0 hz1 hz2 _ _ _ rfl hown s rfl ?c3 ?c4 ?c5 ?_)
 case c3=>rw [hbl];unfold maxLen;omega
 case c4=>rw [hbl];omega
 case c5=>have:=hb1.size;omega
 intro v' w2 hown' hgrow _;have hlt:b<w1.heap.size:=by
  rcases Eg b w1.heap.size with h' | h'
  ·exact h'
  ·simp [Ep h'] at hbk
 have hb2:w2.heap[b]? = some (.cells #[.pointer (some ⟨b,0,none⟩),v] 184 (0,0)):=by
  rw [hgrow.block b hlt (fun e=>hne e.symm)];exact hbk
 have d0:w2.cell? ⟨b,0,none⟩=some (.pointer (some ⟨b,0,none⟩)):=by rw [Lib.cell_of_heap hb2];rfl
 have d1:w2.cell? ⟨b,1,none⟩=some v:=by rw [Lib.cell_of_heap hb2];rfl
 have f1:w2.frozen? ⟨b,1,none⟩=false:=Lib.frozen_of_heap hb2 1;obtain ⟨ao,n',cap,rfl⟩:∃ ao n' cap,v'=.slice ao n' cap:=by
  rcases hown'.2 with ⟨hv,_⟩ | ⟨g,cap,cur,hv,_⟩
  ·exact ⟨_,_,_,hv⟩
  ·exact ⟨_,_,_,hv⟩
 have HO:Hid (w2.ownsRow B 5 1 (.slice ao n' cap) (Lib.byteCells (l++s.data.toList)).length (Lib.byteCells (l++s.data.toList))):=by
  have h:w2.ownsRow B 5 1 (.slice ao n' cap) (Lib.byteCells (l++s.data.toList)).length (Lib.byteCells (l++s.data.toList)):=by
   have e:Lib.byteCells (l++s.data.toList)=Lib.byteCells l++Lib.strCells s:=by simp [Lib.byteCells,Lib.strCells]
   rw [e,Df,Lib.strCells_length,hbl];exact hown'
  exact h
 have HNB:Hid (NonB b w1 w2):=hid (show NonB b w1 w2 from fun k hk hkb hu=>hgrow.block k hk (fun e=>by
  rcases hown.2 with ⟨hv,_⟩ | ⟨g,cap',cur,hv,_,hh,_⟩
  ·rw [hv] at e;cases e
  ·rw [hv] at e;have:k=g:=by simpa [Value.ownBlock] using e
   subst this;exact hu _ _ hh))
 have HSZ:Hid (w1.heap.size≤w2.heap.size):=hid hgrow.size;clear hown';go_wp2;go_ret2;refine ⟨rfl,.inr ?_,?_,?_⟩
 ·exact Lib.BuilderAt.put (T:=184) (e:=5) hB hb2 HO.out (by decide)
 ·exact (hb1.grown hgrow (by have:=hb1.size;omega) (fun k hk=>(hown.lt k hk).1)).setCell (p:=⟨b,1,none⟩) hB _
 ·refine ((HN1.out.trans HNB.out (by rw [HS1.out];exact Db _)).trans (fun k _ hk _=>Eh _ _ _ _ (fun e=>hk e)) ?_);rw [←HS1.out];exact HSZ.out
end
section
open Go.RowKit
theorem Cp (v:Value) (l:List Ent) (k:Nat) (e:Ent) (last:Int) (w:World) (hv:ae w v l) (hl:l.length≤1000000) (he:l[k]? = some e) (h0:(k=0∧last=-1)∨∃ j d,k=j+1∧l[j]? = some d∧last=d.rep) :
 Calls Tryz.prog 194 #[v,.int .i64 (k:Int)] w fun r w'=>r=.returned (.int .i64 (wrE e last:Nat))∧Below w.heap.size w w':=by
 obtain ⟨a1,c1,rfl,f1⟩:=hv.form;obtain ⟨n,hn⟩:∃ n,n=l.length:=⟨_,rfl⟩;have hkl:k<n:=by rw [hn];exact (Do.1 he).1
 rw [←hn] at hl ⊢;obtain ⟨b1,o1,rfl,hb1,p0,p1⟩:=f1 k e he;obtain ⟨rep,time⟩:=e;simp only at p0 p1
 by_cases hr:rep<0∨200<rep∨time<1∨1099511627776<time
 ·have HW:Hid (wrE ⟨rep,time⟩ last=2):=hid (sO hr);have HR:=hid hr;clear hv f1 hn he h0 hr;rw [HW.out];by_cases h1:rep<0
  ·go_enter Tryz.func194,Tryz.ntmps194
   go_wp2;go_ret;exact ⟨rfl,(Below.refl _ _).alloc (Db _) _⟩
  ·by_cases h2:200<rep
   ·go_enter Tryz.func194,Tryz.ntmps194
    go_wp2;go_ret;exact ⟨rfl,(Below.refl _ _).alloc (Db _) _⟩
   ·by_cases h3:time<1
    ·go_enter Tryz.func194,Tryz.ntmps194
     go_wp2;go_ret;exact ⟨rfl,(Below.refl _ _).alloc (Db _) _⟩
    ·have h4:1099511627776<time:=by have:=HR.out;omega
     go_enter Tryz.func194,Tryz.ntmps194
     go_wp2;go_ret;exact ⟨rfl,(Below.refl _ _).alloc (Db _) _⟩
 ·have g1:0≤rep:=by omega
  have g2:rep≤200:=by omega
  have g3:1≤time:=by omega
  have g4:time≤1099511627776:=by omega
  rcases h0 with ⟨hk0,rfl⟩ | ⟨j,d,rfl,hd,rfl⟩
  ·have HW:Hid (wrE ⟨rep,time⟩ (-1)=0):=hid (og hr (by simp only;omega));have z1:¬ 0<k:=by omega
   have z2:decide (0<k)=false:=by simp;omega
   have z3:decide ((0:Int)<(k:Int))=false:=by simp;omega
   clear hv f1 hn he hr hk0;rw [HW.out];go_enter Tryz.func194,Tryz.ntmps194
   go_wp2
   go_quiet (fail)
   go_wp2;go_ret;exact ⟨rfl,below_drewN ((Below.refl _ _).alloc (Db _) _) _⟩
  ·obtain ⟨b2,o2,hbo,_,q0,_⟩:=f1 j d hd;simp only [E1,Eq,and_true] at hbo
   obtain ⟨rfl,rfl⟩:=hbo;obtain ⟨last,dt⟩:=d;simp only at q0
   obtain ⟨k,hk⟩:∃ k,k=j+1:=⟨_,rfl⟩;rw [←hk] at he hkl p0 p1 ⊢;have hj1:(k:Int)-1=(j:Int):=by omega
   have hj2:IntKind.i64.wrap ((k:Int)-1)=(j:Int):=by rw [hj1];exact Dh _ (by omega)
   have hk0:(0:Int)<(k:Int):=by omega
   have z1:0<k:=by omega
   have z2:decide (0<k)=true:=by simp;omega
   have z3:decide ((0:Int)<(k:Int))=true:=by simp;omega
   have hjn:(j:Int)<(n:Int):=by omega
   have hjn':j<n:=by omega
   have hj0:(0:Int)≤(j:Int):=by omega
   have q0':=(DC w (.cells #[.int .i64 rep,.int .i64 time] 73) (⟨b1,o1+j * 2,none⟩:Addr) hb1).trans q0;by_cases h5:rep≤last
   ·have HW:Hid (wrE ⟨rep,time⟩ (Ent.mk last dt).rep=10):=hid (sN hr h5);clear hv f1 hn he hr hd hk;rw [HW.out];go_enter Tryz.func194,Tryz.ntmps194
    go_wp2
    go_quiet (fail)
    go_wp2;go_ret;exact ⟨rfl,below_drewN ((Below.refl _ _).alloc (Db _) _) _⟩
   ·have HW:Hid (wrE ⟨rep,time⟩ (Ent.mk last dt).rep=0):=hid (og hr h5);clear hv f1 hn he hr hd hk;rw [HW.out];go_enter Tryz.func194,Tryz.ntmps194
    go_wp2
    go_quiet (fail)
    go_wp2;go_ret;exact ⟨rfl,below_drewN ((Below.refl _ _).alloc (Db _) _) _⟩
theorem Cl (v:Value) (l:List Ent) (w:World) (hv:ae w v l) (hl:l.length≤16) :
 Calls Tryz.prog 166 #[v] w (jc w (vr l 0 (-1))):=by
 have HV:=hid hv;obtain ⟨a1,c1,rfl,f1⟩:=hv.form;obtain ⟨n,hn⟩:∃ n,n=l.length:=⟨_,rfl⟩;rw [←hn] at hl HV ⊢;have HN:=hid hn;clear hv f1 hn;go_enter Tryz.func166,Tryz.ntmps166
 go_wp2
 go_loopw [11] (fun i wr=>∃ (k:Nat) (last:Int),k≤n∧i=.int .i64 k∧((k=0∧last=-1)∨∃ j d,k=j+1∧l[j]? = some d∧last=d.rep)∧vr l 0 (-1)=vr (l.drop k) k last∧Below w.heap.size w wr) (fun i _=>n-(intOf i).toNat)
 case atStart=>exact ⟨0,-1,by omega,rfl,.inl ⟨rfl,rfl⟩,rfl,Below.refl _ _⟩
 case round =>
  obtain ⟨k,last,hk,rfl,hla,heq,hbel⟩:=hrel;have HEQ:=hid heq;have HLA:=hid hla;have HB:=hid hbel;have hzr:=hbel.size;clear heq hbel hla;by_cases hlt:k<n
  ·have hkl:k<l.length:=by have:=HN.out;omega
   obtain ⟨t,ht⟩:∃ t,l[k]? = some t:=⟨l[k],Di hkl⟩;have hd:l.drop k=t::l.drop (k+1):=by
    rw [DA hkl];congr 1;rw [Di hkl] at ht;exact Dr ht
   have HD:=hid hd;have HT:=hid ht;obtain ⟨e,he⟩:∃ e,wrE t last=e:=⟨_,rfl⟩;have HE:=hid he;clear ht hkl hd he;go_wp2_with fail
   refine (Cp _ l k t last _ (HV.out.below (HB.out.mono (Db _))) (by have:=HN.out;omega) HT.out HLA.out).mono ?_;rintro r w1 ⟨rfl,hb1⟩;rw [HE.out];have HB1:Hid (Below w.heap.size w w1):=HB.out.trans (hb1.mono hzr);have hz1:=HB1.out.size;clear hb1;by_cases h0:e=0
   ·subst h0;have HN2:Hid (vr l 0 (-1)=vr (l.drop (k+1)) (k+1) t.rep):=hid (show vr l 0 (-1)=vr (l.drop (k+1)) (k+1) t.rep by rw [HEQ.out,HD.out,l9 HE.out]);go_wp2;go_roundw
    case rel=>exact ⟨k+1,t.rep,by omega,by go_num,.inr ⟨k,t,rfl,HT.out,rfl⟩,HN2.out,HB1.out⟩
    case measure=>simp [intOf];omega
   ·have HN2:Hid (vr l 0 (-1)=(e,(k:Int))):=hid (show vr l 0 (-1)=(e,(k:Int)) by rw [HEQ.out,HD.out,iX (by rw [HE.out];exact h0),HE.out]);have hne:((e:Int) != 0)=true:=by simp;omega
    have H0:=hid h0;clear h0;go_wp2;go_ret;rw [HN2.out];exact ⟨_,rfl,atIs.new w1 e k H0.out,HB1.out.alloc hz1 _⟩
  ·have HN2:Hid (vr l 0 (-1)=(0,-1)):=hid (show vr l 0 (-1)=(0,-1) by rw [HEQ.out,DD (by have:=HN.out;omega)];rfl);go_wp2;go_ret;exact ⟨_,rfl,.inl ⟨HN2.out,rfl⟩,HB.out⟩
theorem de (v:Value) (l:List Ent) (w:World) (hv:ae w v l) (hl:l.length≤9223372036854775807) :
 Calls Tryz.prog 166 #[v] w (gJ w (au l)):=by
 by_cases h:16<l.length
 ·have HW:Hid (au l=(4,-1)):=hid (show au l=(4,-1) by unfold au;rw [if_pos h]);obtain ⟨a1,c1,rfl,_⟩:=hv.form;obtain ⟨n,hn⟩:∃ n,n=l.length:=⟨_,rfl⟩;rw [←hn] at h hl ⊢;clear hv hn;rw [HW.out];have h2:16<(n:Int):=by omega
  go_enter Tryz.func166,Tryz.ntmps166
  go_wp2;go_ret;exact ⟨_,rfl,.inr ⟨by decide,rfl,rfl⟩,Below.refl _ _⟩
 ·refine (Cl v l w hv (by omega)).mono ?_;rintro e w' ⟨x,h1,h2,h3⟩;refine ⟨x,h1,.inl ?_,h3⟩;unfold au;rw [if_neg h];exact h2
end
