import Derived.Test.YtdhognaoejiglaaGreatDoorKb16
namespace Go.Proofs.YtdhognaoejiglaaGreatDoor
open Lib (hid)
set_option maxRecDepth 100000
set_option maxHeartbeats 8000000
section
open Go.RowKit
theorem ub (a b:List UInt8) (s:ByteArray) (h:s.data.toList=b):(⟨a.toArray⟩:ByteArray)++s=⟨(a++b).toArray⟩:=by
 apply jX;rw [gG,h]
theorem lu (n:Nat) (k:Int) (P:ByteArray) (w:World) (h:n≤1000000) (hk:(n:Int)=k) (hP:⟨(putL n).toArray⟩=P) :
 Calls Tryz.prog 115 #[.int .u64 k] w fun e w'=>e=.returned (.string P)∧Below w.heap.size w w':=by
 subst hk hP;exact lw n w (by omega)
theorem Bl (t:Tok) (w:World) (hf:fine t) (hs:t.own.size≤20000) :
 Calls Tryz.prog 177 #[tokV t] w fun e w'=>e=.returned (.string ⟨(putT t).toArray⟩)∧Below w.heap.size w w':=by
 obtain ⟨s,b,z⟩:=t;rcases hf with ⟨h1,h2,h3⟩ | ⟨h1,h2,h3,h4,h5⟩
 ·simp only at h1 h2 h3 hs
  subst h2 h3;have e1:=rm h1;have HP:Hid ((⟨(putL (2 * s.size)).toArray⟩:ByteArray)++s=⟨(putT ⟨s,0,0⟩).toArray⟩):=by
   have h:(⟨(putL (2 * s.size)).toArray⟩:ByteArray)++s=⟨(putT ⟨s,0,0⟩).toArray⟩:=by
    rw [lm h1];exact ub _ _ _ rfl
   exact h
  have hl:=aI (n:=2 * s.size) (by omega);have hl2:(⟨(putL (2 * s.size)).toArray⟩:ByteArray).size≤10:=by rw [cq];exact hl
  obtain ⟨P,hP⟩:∃ P:ByteArray,⟨(putL (2 * s.size)).toArray⟩=P:=⟨_,rfl⟩;rw [hP] at HP hl2;have HPP:=hid hP;have k1:IntKind.u64.wrap (s.size:Int)=s.size:=IntWalk.u64_in _ (by omega);have k2:IntKind.u64.wrap (2 * (s.size:Int))=2 * s.size:=IntWalk.u64_in _ (by omega);have ksz:¬ (9223372036854775807<P.size+s.size):=by omega
  have c0:(w.alloc (.cells #[.string s,.int .i64 0,.int .i64 0] 237)).cell? ⟨w.heap.size,0,none⟩=some (.string s):=by simp
  have HQ:Hid (2 * s.size≤1000000∧((2 * s.size:Nat):Int)=2 * (s.size:Int)):=⟨by omega,by omega⟩;clear h1 hl hP;unfold tokV;go_enter Tryz.func177,Tryz.ntmps177
  go_wp2;go_region_held3 (fun w'=>w'.cell? ⟨w.heap.size,0,none⟩=some (.string s)) (first | exact c0 | exact c1) (first | (go_at_call 115;(with_reducible refine (lu (2 * s.size) _ P _ HQ.out.1 HQ.out.2 HPP.out).mono ?_);rintro r w1 ⟨rfl,hb1⟩;have c1:w1.cell? ⟨w.heap.size,0,none⟩=some (.string s):=(hb1.cell (by simp)).trans c0;have HB1:Hid (Below w.heap.size w w1):=((((Below.refl _ _).alloc (Nat.le_refl _) _).drew).trans (hb1.mono (by simp)));clear hb1))
  go_wp2;go_ret;exact ⟨by rw [HP.out];rfl,HB1.out⟩
 ·simp only at h1 h2 h3 h4 h5
  obtain ⟨Z,rfl⟩:=Int.eq_ofNat_of_zero_le (show 0≤z by omega);obtain ⟨B,rfl⟩:=Int.eq_ofNat_of_zero_le (show 0≤b by omega);have e1:=qL h1;have HP:Hid ((⟨(putL (2 * (Z-4)+1)).toArray⟩:ByteArray)++⟨(putL (B-1)).toArray⟩=⟨(putT ⟨s,B,Z⟩).toArray⟩):=by
   have h:(⟨(putL (2 * (Z-4)+1)).toArray⟩:ByteArray)++⟨(putL (B-1)).toArray⟩=⟨(putT ⟨s,B,Z⟩).toArray⟩:=by
    rw [lq h1];exact ub _ _ _ rfl
   exact h
  have hl:=aI (n:=2 * (Z-4)+1) (by omega);have hl':=aI (n:=B-1) (by omega);have hl2:(⟨(putL (2 * (Z-4)+1)).toArray⟩:ByteArray).size≤10:=by rw [cq];exact hl
  have hl3:(⟨(putL (B-1)).toArray⟩:ByteArray).size≤10:=by rw [cq];exact hl'
  obtain ⟨P,hP⟩:∃ P:ByteArray,⟨(putL (2 * (Z-4)+1)).toArray⟩=P:=⟨_,rfl⟩;obtain ⟨R,hR⟩:∃ R:ByteArray,⟨(putL (B-1)).toArray⟩=R:=⟨_,rfl⟩;rw [hP,hR] at HP;rw [hP] at hl2;rw [hR] at hl3;have HPP:=hid hP;have HRR:=hid hR;have k1:IntKind.i64.wrap ((Z:Int)-4)=(Z:Int)-4:=IntWalk.i64_in _ (by omega);have k2:IntKind.u64.wrap ((Z:Int)-4)=(Z:Int)-4:=IntWalk.u64_in _ (by omega);have k3:IntKind.u64.wrap (2 * ((Z:Int)-4))=2 * ((Z:Int)-4):=IntWalk.u64_in _ (by omega);have k4:IntKind.u64.wrap (2 * ((Z:Int)-4)+1)=2 * ((Z:Int)-4)+1:=IntWalk.u64_in _ (by omega);have k5:IntKind.i64.wrap ((B:Int)-1)=(B:Int)-1:=IntWalk.i64_in _ (by omega);have k6:IntKind.u64.wrap ((B:Int)-1)=(B:Int)-1:=IntWalk.u64_in _ (by omega);have ksz:¬ (9223372036854775807<P.size+R.size):=by omega
  have c0:(w.alloc (.cells #[.string s,.int .i64 B,.int .i64 Z] 237)).cell? ⟨w.heap.size,1,none⟩=some (.int .i64 B)∧(w.alloc (.cells #[.string s,.int .i64 B,.int .i64 Z] 237)).cell? ⟨w.heap.size,2,none⟩=some (.int .i64 Z):=by simp
  have HQ:Hid (2 * (Z-4)+1≤1000000∧((2 * (Z-4)+1:Nat):Int)=2 * ((Z:Int)-4)+1):=⟨by omega,by omega⟩;have HQ2:Hid (B-1≤1000000∧((B-1:Nat):Int)=(B:Int)-1):=⟨by omega,by omega⟩;clear h1 hl hl' hP hR;unfold tokV;go_enter Tryz.func177,Tryz.ntmps177
  go_wp2;go_region_held3 (fun w'=>w'.cell? ⟨w.heap.size,1,none⟩=some (.int .i64 B)∧w'.cell? ⟨w.heap.size,2,none⟩=some (.int .i64 Z)) (first | exact c0 | exact c1 | exact c2) (first | (go_at_call 115;(with_reducible refine (lu (2 * (Z-4)+1) _ P _ HQ.out.1 HQ.out.2 HPP.out).mono ?_);rintro r w1 ⟨rfl,hb1⟩;have c1:w1.cell? ⟨w.heap.size,1,none⟩=some (.int .i64 B)∧w1.cell? ⟨w.heap.size,2,none⟩=some (.int .i64 Z):=⟨(hb1.cell (by simp)).trans c0.1,(hb1.cell (by simp)).trans c0.2⟩;have HB1:Hid (Below w.heap.size w w1):=((((Below.refl _ _).alloc (Nat.le_refl _) _).drew).trans (hb1.mono (by simp)));have HZ1:Hid (w.heap.size<w1.heap.size):=(Nat.lt_of_lt_of_le (by simp) hb1.size);clear hb1) | (go_at_call 115;(with_reducible refine (lu (B-1) _ R _ HQ2.out.1 HQ2.out.2 HRR.out).mono ?_);rintro r w2 ⟨rfl,hb2⟩;have c2:w2.cell? ⟨w.heap.size,1,none⟩=some (.int .i64 B)∧w2.cell? ⟨w.heap.size,2,none⟩=some (.int .i64 Z):=⟨(hb2.cell HZ1.out).trans c1.1,(hb2.cell HZ1.out).trans c1.2⟩;have HB2:Hid (Below w.heap.size w w2):=HB1.out.trans (hb2.mono HB1.out.size);clear hb2))
  go_wp2;go_ret;exact ⟨by rw [HP.out];rfl,HB2.out⟩
end
section
open Go.RowKit
def cAt (l:List Wr) (x:Int×Int) (k:Nat):Int:=(l[k]?.map fun y=>cI x (wid y)).getD 0
theorem iG {l:List Wr} {x:Int×Int} {k:Nat} {y:Wr} (h:l[k]? = some y):cAt l x k=cI x (wid y):=by unfold cAt;rw [h];rfl
theorem Al {w w':World} {a b c d e:Addr} {x y z u v:Value} (hb:Below w.heap.size w w') (h:w.cell? a=some x∧w.cell? b=some y∧w.cell? c=some z∧w.cell? d=some u∧w.cell? e=some v) :
 w'.cell? a=some x∧w'.cell? b=some y∧w'.cell? c=some z∧w'.cell? d=some u∧w'.cell? e=some v :=
 ⟨(hb.cell (bg h.1)).trans h.1,(hb.cell (bg h.2.1)).trans h.2.1,(hb.cell (bg h.2.2.1)).trans h.2.2.1,(hb.cell (bg h.2.2.2.1)).trans h.2.2.2.1,(hb.cell (bg h.2.2.2.2)).trans h.2.2.2.2⟩
theorem CZ (v:Value) (l:List Wr) (x1 x2:Int) (i:Nat) (B2 B3:Nat) (w:World) (hv:az w v l) (hi:i<l.length) (h2:w.heap[B2]? = some (.cells #[v] 30 (0,0))) (h3:w.heap[B3]? = some (.cells #[.int .i64 x1,.int .i64 x2] 36 (0,0))) :
 Calls Tryz.prog 98 #[.int .i64 (i:Int),.pointer (some ⟨B3,0,none⟩),.pointer (some ⟨B2,0,none⟩)] w fun e w'=>e=.returned (.int .i64 (cAt l (x1,x2) i))∧Below w.heap.size w w':=by
 obtain ⟨a,c,rfl,hf⟩:=hv.form;obtain ⟨y,hy⟩:∃ y,l[i]? = some y:=⟨l[i],List.getElem?_eq_getElem _⟩;obtain ⟨b,off,rfl,hbl,c0,c1,_⟩:=hf i y hy;have HC:Hid (cI (x1,x2) (y.time,y.rep)=cAt l (x1,x2) i):=hid (iG hy).symm;obtain ⟨z,hz⟩:∃ z,z=cAt l (x1,x2) i:=⟨_,rfl⟩;rw [←hz] at HC ⊢;obtain ⟨n,hn⟩:∃ n,n=l.length:=⟨_,rfl⟩;rw [←hn] at hi h2;have p2:w.cell? ⟨B2,0,none⟩=some (.slice (some ⟨b,off,none⟩) n c):=cell_of_row _ _ 0 _ _ _ h2;have p3:w.cell? ⟨B3,0,none⟩=some (.int .i64 x1):=cell_of_row _ _ 0 _ _ _ h3;have p4:w.cell? ⟨B3,1,none⟩=some (.int .i64 x2):=cell_of_row _ _ 1 _ _ _ h3;have hii:(i:Int)<(n:Int):=by omega
 have k0:w.drew.cell? ⟨B2,0,none⟩=some (.slice (some ⟨b,off,none⟩) n c)∧w.drew.cell? ⟨B3,0,none⟩=some (.int .i64 x1)∧w.drew.cell? ⟨B3,1,none⟩=some (.int .i64 x2)∧w.drew.cell? ⟨b,off+i * 6,none⟩=some (.int .i64 y.time)∧w.drew.cell? ⟨b,off+i * 6+1,none⟩=some (.int .i64 y.rep):=⟨p2,p3,p4,c0,c1⟩;obtain ⟨T,R,_,_,_,_⟩:=y;simp only at c0 c1 k0 HC
 clear hv hf hz hn h2 h3 hy;go_enter Tryz.func98,Tryz.ntmps98
 go_wp2;go_region_held3 (fun w'=>w'.cell? ⟨B2,0,none⟩=some (.slice (some ⟨b,off,none⟩) n c)∧w'.cell? ⟨B3,0,none⟩=some (.int .i64 x1)∧w'.cell? ⟨B3,1,none⟩=some (.int .i64 x2)∧w'.cell? ⟨b,off+i * 6,none⟩=some (.int .i64 T)∧w'.cell? ⟨b,off+i * 6+1,none⟩=some (.int .i64 R)) (first | exact k0 | exact k1 | fail) (first
  | (go_at_call 18;((with_reducible refine (gc x1 x2 T R z w.drew HC.out).mono ?_);rintro r w1 ⟨rfl,hb1⟩;have HB1:=hid (cd hb1);have k1:=Al hb1 k0;clear hb1))
  | fail)
 all_goals
  go_wp2;go_ret;exact ⟨rfl,HB1.out⟩
theorem zj (v:Value) (l:List Wr) (x1 x2:Int) (n:Nat) (B2 B3:Nat) (w:World) (hv:az w v l) (hn:n=l.length) (hl:n≤1000000) (h2:w.heap[B2]? = some (.cells #[v] 30 (0,0))) (h3:w.heap[B3]? = some (.cells #[.int .i64 x1,.int .i64 x2] 36 (0,0)))
 (hm:∀ i j,i≤j→j<n→0<cAt l (x1,x2) j→0<cAt l (x1,x2) i) :
 Calls Tryz.prog 97 #[.int .i64 (n:Int),.func (.func 98) #[] #[.pointer (some ⟨B3,0,none⟩),.pointer (some ⟨B2,0,none⟩)]] w fun e w' =>
  ∃ p:Nat,p≤n∧(∀ k,k<p→0<cAt l (x1,x2) k)∧(∀ k,p≤k→k<n→cAt l (x1,x2) k≤0)∧e=.returned (.tuple #[.int .i64 (p:Int),.bool (decide (p<n∧cAt l (x1,x2) p=0))])∧Below w.heap.size w w':=by
 obtain ⟨G,hG⟩:∃ G,G=cAt l (x1,x2):=⟨_,rfl⟩;have HP:Hid (∀ i w',i<n→Below w.heap.size w w'→Calls Tryz.prog 98 #[.int .i64 (i:Int),.pointer (some ⟨B3,0,none⟩),.pointer (some ⟨B2,0,none⟩)] w' fun e w''=>e=.returned (.int .i64 (G i))∧Below w'.heap.size w' w''):=hid (fun i w' hi hb=>by
  rw [hG];exact CZ v l x1 x2 i B2 B3 w' (hv.below hb) (by omega) ((hb.block B2 (Array.getElem?_eq_some_iff.1 h2).1).trans h2) ((hb.block B3 (Array.getElem?_eq_some_iff.1 h3).1).trans h3))
 rw [←hG] at hm ⊢;have HM:=hid hm;clear hG hm hv hn h2 h3;go_enter Tryz.func97,Tryz.ntmps97
 go_wp2
 go_loopw [4,6] (fun i j wr=>∃ a b:Nat,a≤b∧b≤n∧i=.int .i64 a∧j=.int .i64 b∧(∀ k,k<a→0<G k)∧(∀ k,b≤k→k<n→G k≤0)∧Below w.heap.size w wr) (fun i j _=>(intOf j).toNat-(intOf i).toNat)
 case atStart=>exact ⟨0,n,by omega,by omega,rfl,rfl,fun k hk=>(by omega),fun k h1 h2=>(by omega),Below.refl _ _⟩
 case round =>
  obtain ⟨a,b,hab,hbn,rfl,rfl,hlo,hhi,hb⟩:=hrel;have HLO:=hid hlo;have HHI:=hid hhi;have HB:=hid hb;clear hlo hhi hb;by_cases hlt:a<b
  ·have b1:decide ((a:Int)<(b:Int))=true:=by simpa using hlt
   obtain ⟨h,hh⟩:∃ h:Nat,h=(a+b) / 2:=⟨_,rfl⟩;have hh2:Hid (a≤h∧h<b):=hid (by omega);have HH:Hid (((a:Int)+(b:Int)) / 2=(h:Int)):=hid (by omega);have hhn:h≤1000000:=by omega
   clear hh;go_wp2_with fail
   rw [HH.out];refine (HP.out h wr (by have:=hh2.out;omega) HB.out).mono ?_;rintro r w1 ⟨rfl,hb1⟩;have HB1:Hid (Below w.heap.size w w1):=hid (HB.out.trans (hb1.mono HB.out.size));clear hb1;by_cases hp:0<G h
   ·have b2:decide (0<G h)=true:=by simpa using hp
    have HPP:=hid hp;obtain ⟨z,hz⟩:∃ z,z=G h:=⟨_,rfl⟩;rw [←hz] at b2 ⊢;clear hp hz;go_wp2;go_roundw
    ·exact ⟨h+1,b,by have:=hh2.out;omega,by omega,by simp,rfl,fun k hk=>HM.out k h (by omega) (by have:=hh2.out;omega) HPP.out,HHI.out,HB1.out⟩
    ·have:=hh2.out;simp [intOf];omega
   ·have b2:decide (0<G h)=false:=by simpa using hp
    have HPP:=hid hp;obtain ⟨z,hz⟩:∃ z,z=G h:=⟨_,rfl⟩;rw [←hz] at b2 ⊢;clear hp hz;go_wp2;go_roundw
    ·refine ⟨a,h,by have:=hh2.out;omega,by have:=hh2.out;omega,rfl,rfl,HLO.out,fun k h1 h2=>?_,HB1.out⟩;exact Int.not_lt.1 (fun e=>by have:=HM.out h k h1 h2 e;have:=HPP.out;omega)
    ·have:=hh2.out;simp [intOf];omega
  ·have b1:decide ((a:Int)<(b:Int))=false:=by simp;omega
   obtain rfl:a=b:=by omega
   by_cases hlt2:a<n
   ·have b2:decide ((a:Int)<(n:Int))=true:=by simpa using hlt2
    have HL2:=hid hlt2;go_wp2_with fail
    refine (HP.out a wr HL2.out HB.out).mono ?_;rintro r w1 ⟨rfl,hb1⟩;have HB1:Hid (Below w.heap.size w w1):=hid (HB.out.trans (hb1.mono HB.out.size));clear hb1;obtain ⟨z,hz⟩:∃ z,z=G a:=⟨_,rfl⟩;rw [←hz];have HZ:=hid hz;clear hz;go_wp2;go_ret2;refine ⟨a,hbn,HLO.out,HHI.out,?_,HB1.out⟩;have e:decide (a<n∧G a=0)=(z == 0):=by rw [←HZ.out];simp [HL2.out];rfl
    rw [e]
    rfl
   ·have b2:decide ((a:Int)<(n:Int))=false:=by simp;omega
    have HL2:=hid hlt2;go_wp2;go_ret2;refine ⟨a,hbn,HLO.out,HHI.out,?_,HB.out⟩;have e:decide (a<n∧G a=0)=false:=by simp;intro h;exact absurd h HL2.out
    rw [e]
    rfl
theorem xV {l:List Wr} (h:l.Pairwise late) (x:Int×Int):∀ i j,i≤j→j<l.length→0<cAt l x j→0<cAt l x i:=by
 intro i j hij hj h0;obtain ⟨a,ha⟩:∃ a,l[i]? = some a:=⟨l[i],List.getElem?_eq_getElem _⟩;obtain ⟨b,hb⟩:∃ b,l[j]? = some b:=⟨l[j],List.getElem?_eq_getElem _⟩;rw [iG hb] at h0;rw [iG ha];by_cases e:i=j
 ·subst e;rw [ha] at hb;rw [Option.some.inj hb];exact h0
 have hl:late a b:=by
  have:=List.pairwise_iff_getElem.1 h i j (by omega) hj (by omega)
  rwa [(List.getElem?_eq_some_iff.1 ha).2,(List.getElem?_eq_some_iff.1 hb).2] at this
 obtain ⟨x1,x2⟩:=x;rw [eI] at hl;unfold wid at h0 ⊢;rw [eW] at h0 ⊢;split at h0
 ·omega
 ·split at h0
  ·omega
  ·rename_i h1 h2;rw [if_neg (by omega),if_neg (by omega)];omega
theorem mO {l:List Wr} {x y:Wr} {k:Nat} (h:l[k]? = some y):0<cAt l (wid x) k↔late y x:=by
 rw [iG h,eI];unfold wid;rw [eW];split
 ·omega
 ·split <;> omega
theorem qu {l:List Wr} {x y:Wr} {k:Nat} (h:l[k]? = some y):cAt l (wid x) k=0↔wid y=wid x:=by
 rw [iG h];unfold wid;rw [eW];split
 ·simp;omega
 ·split
  ·simp;omega
  ·simp;omega
theorem Bh (v:Value) (l:List Wr) (x1 x2:Int) (w:World) (hv:az w v l) (hl:l.length≤1000000) (hs:l.Pairwise late) :
 Calls Tryz.prog 68 #[v,.agg #[.int .i64 x1,.int .i64 x2]] w fun e w' =>
  ∃ p:Nat,p≤l.length∧(∀ k,k<p→0<cAt l (x1,x2) k)∧(∀ k,p≤k→k<l.length→cAt l (x1,x2) k≤0)∧e=.returned (.tuple #[.int .i64 (p:Int),.bool (decide (p<l.length∧cAt l (x1,x2) p=0))])∧Below w.heap.size w w':=by
 have HM:=hid (xV hs (x1,x2));obtain ⟨a,c,rfl,_⟩:=hv.form;have HV:=hid hv;obtain ⟨n,hn⟩:∃ n,n=l.length:=⟨_,rfl⟩;rw [←hn] at hl HM HV ⊢;have HN:=hid hn;have HL:=hid hl;clear hv hn hs hl;go_enter Tryz.func68,Tryz.ntmps68
 go_wp2_with fail
 refine (zj _ l x1 x2 n w.heap.size (w.heap.size+1) _ ((HV.out.alloc _).alloc _) HN.out HL.out ?q1 ?q2 HM.out).mono ?_
 case q1=>rw [Below.heap_alloc _ _ _ (by simp)];exact heap_alloc_new _ _
 case q2=>have:=heap_alloc_new (w.alloc (.cells #[.slice a n c] 30)) (.cells #[.int .i64 x1,.int .i64 x2] 36);rwa [World.size_alloc] at this
 rintro r w1 ⟨p,hp,h1,h2,rfl,hb⟩;have HX:Hid (p≤n∧(∀ k,k<p→0<cAt l (x1,x2) k)∧(∀ k,p≤k→k<n→cAt l (x1,x2) k≤0)):=hid ⟨hp,h1,h2⟩;have HB:Hid (Below w.heap.size w w1):=hid ((((Below.refl _ _).alloc (Nat.le_refl _) _).alloc (by simp) _).trans (hb.mono (by simp;omega)));obtain ⟨d,hd⟩:∃ d,d=decide (p<n∧cAt l (x1,x2) p=0):=⟨_,rfl⟩;rw [←hd];have HD:=hid hd;clear hp h1 h2 hb hd;go_wp2;go_ret2;exact ⟨p,HX.out.1,HX.out.2.1,HX.out.2.2,by rw [←HD.out];rfl,HB.out⟩
end
section
open Go.RowKit
theorem xH:liesAt Tryz.prog Tryz.prog.depth 195 (2 / Tryz.prog.cellsOf 195) 0 145 1=true:=by kernel_rfl
def bQ (w:World) (B b:Nat) (l:List UInt8):Prop:=Lib.IsBuilder 195 5 B b (Lib.byteCells l) w
theorem FZ (w:World) (B:Nat) (h:B≤w.heap.size):bQ (w.alloc (.cells #[.pointer none,.slice none 0 0] 195)) B w.heap.size [] :=
 .inl ⟨h,.slice none 0 0,heap_alloc_new w _,World.ownsRow_nil _ _ _ _,by simp [Value.ownBlock]⟩
theorem bQ.below {w w':World} {B b:Nat} {l:List UInt8} (h:bQ w B b l) (hb:Below w.heap.size w w'):bQ w' B b l:=by
 have hone:∀ {p:Value},Lib.BuilderAt 195 5 B b p (Lib.byteCells l) w→Lib.BuilderAt 195 5 B b p (Lib.byteCells l) w':=by
  intro p h;have hlt:=h.lt;obtain ⟨hB,v,hbk,hown,hne⟩:=h;refine ⟨hB,v,(hb.block b hlt).trans hbk,?_,hne⟩;refine World.ownsRow.kept hown (row:=none) ⟨hb.os,hb.tape,hb.output,hb.size,fun k hk _=>hb.block k hk⟩ ?_;cases hv:v.ownBlock with
  | none=>exact .inl rfl
  | some g=>exact .inr (by simp)
 rcases h with h | h
 ·exact .inl (hone h)
 ·exact .inr (hone h)
theorem bQ.lt {w:World} {B b:Nat} {l:List UInt8} (h:bQ w B b l):B≤b∧b<w.heap.size:=by
 rcases h with h | h
 ·exact ⟨h.1,h.lt⟩
 ·exact ⟨h.1,h.lt⟩
theorem G3 (b:Nat) (w:World) (h0:w.cell? ⟨b,0,none⟩=some (.pointer none)) (hsh:w.shape? b=some (195,2)) (hfz:w.frozen? ⟨b,0,none⟩=false) :
 Calls Tryz.prog 116 #[.pointer (some ⟨b,0,none⟩)] w fun e w'=>e=.returned (.tuple #[])∧w'=w.setCell ⟨b,0,none⟩ (.pointer (some ⟨b,0,none⟩)):=by
 obtain ⟨j,hj,hjs⟩:=Option.map_eq_some_iff.1 mD;go_enter Tryz.func116,Tryz.ntmps116
 go_wp2;rw [Lib.run_to_unsafe w ⟨b,0,none⟩ Tryz.underlying143 Tryz.underlying130 hj (by rw [hjs];decide) hsh (Nat.zero_lt_succ 1)];simp only [Result.andThen]
 rw [Oper.upon_value];go_wp2;rw [run_callFunc_extern Tryz.func151 (by kernel_rfl) (by kernel_rfl) (by kernel_rfl) (e:=Extern.AbiNoEscape.same) (by kernel_rfl)];rw [Lib.run_noEscape];simp only [Result.andThen]
 rw [Oper.upon_value];go_wp2;rw [Lib.run_from_unsafe w ⟨b,0,none⟩ Tryz.underlying130 Tryz.underlying143 hj hsh xH];simp only [Result.andThen]
 rw [Oper.upon_value];go_wp2
 go_end0
 exact ⟨rfl,rfl⟩
theorem vJ (B b:Nat) (l:List UInt8) (w:World) (h:bQ w B b l) :
 Calls Tryz.prog 116 #[.pointer (some ⟨b,0,none⟩)] w fun e w'=>e=.returned (.tuple #[])∧Lib.BuilderAt 195 5 B b (.pointer (some ⟨b,0,none⟩)) (Lib.byteCells l) w'∧Below B w w'∧NonB b w w'∧w'.heap.size=w.heap.size:=by
 rcases h with h | h
 ·refine (G3 b w h.cell0 h.shape h.frozen0).mono ?_;rintro e w' ⟨rfl,rfl⟩;exact ⟨rfl,h.used _,(Below.refl B w).setCell (p:=⟨b,0,none⟩) h.1 _,fun k _ hk _=>heap_setCell_other _ _ _ _ (fun e=>hk e),by simp⟩
 ·refine (mP b w h.cell0).mono ?_;rintro e w' ⟨rfl,rfl⟩;exact ⟨rfl,h,Below.refl B _,fun k _ _ _=>rfl,rfl⟩
theorem vI (B b:Nat) (l:List UInt8) (s:ByteArray) (w:World) (h:bQ w B b l) (hlen:l.length+s.size≤140737488355328) (hBw:B≤w.heap.size) :
 Calls Tryz.prog 88 #[.pointer (some ⟨b,0,none⟩),.string s] w fun e w'=>e=.returned (.tuple #[.int .i64 s.size,.nilIface])∧bQ w' B b (l++s.data.toList)∧Below B w w'∧NonB b w w':=by
 obtain ⟨i0,hi,hz0,hz1,hz2⟩:=info_parts gS;have hbl:(Lib.byteCells l).length=l.length:=by simp [Lib.byteCells]
 go_enter Tryz.func88,Tryz.ntmps88
 go_wp2_with fail
 refine (vJ B b l _ h).mono ?_;rintro e w1 ⟨rfl,h1,hb1,hn1,hs1⟩;have HN1:=hid hn1;have HS1:=hid hs1;obtain ⟨hB,v,hbk,hown,hne⟩:=h1;have c0:w1.cell? ⟨b,0,none⟩=some (.pointer (some ⟨b,0,none⟩)):=by rw [Lib.cell_of_heap hbk];rfl
 have c1:w1.cell? ⟨b,1,none⟩=some v:=by rw [Lib.cell_of_heap hbk];rfl
 clear hn1 hs1;go_wp2_with (at_builtin;refine Lib.wpList_append_own_string _ rfl _ _ 142 9 rfl B 5 i0 Tryz.underlying142 Tryz.underlying9 hi hz0 hz1 hz2 _ _ _ rfl hown s rfl ?c3 ?c4 ?c5 ?_)
 case c3=>rw [hbl];unfold maxLen;omega
 case c4=>rw [hbl];omega
 case c5=>have:=hb1.size;omega
 intro v' w2 hown' hgrow _;have hlt:b<w1.heap.size:=by
  rcases Nat.lt_or_ge b w1.heap.size with h' | h'
  ·exact h'
  ·simp [Array.getElem?_eq_none h'] at hbk
 have hb2:w2.heap[b]? = some (.cells #[.pointer (some ⟨b,0,none⟩),v] 195 (0,0)):=by
  rw [hgrow.block b hlt (fun e=>hne e.symm)];exact hbk
 have d0:w2.cell? ⟨b,0,none⟩=some (.pointer (some ⟨b,0,none⟩)):=by rw [Lib.cell_of_heap hb2];rfl
 have d1:w2.cell? ⟨b,1,none⟩=some v:=by rw [Lib.cell_of_heap hb2];rfl
 have f1:w2.frozen? ⟨b,1,none⟩=false:=Lib.frozen_of_heap hb2 1;obtain ⟨ao,n',cap,rfl⟩:∃ ao n' cap,v'=.slice ao n' cap:=by
  rcases hown'.2 with ⟨hv,_⟩ | ⟨g,cap,cur,hv,_⟩
  ·exact ⟨_,_,_,hv⟩
  ·exact ⟨_,_,_,hv⟩
 have HO:Hid (w2.ownsRow B 5 1 (.slice ao n' cap) (Lib.byteCells (l++s.data.toList)).length (Lib.byteCells (l++s.data.toList))):=by
  have h:w2.ownsRow B 5 1 (.slice ao n' cap) (Lib.byteCells (l++s.data.toList)).length (Lib.byteCells (l++s.data.toList)):=by
   have e:Lib.byteCells (l++s.data.toList)=Lib.byteCells l++Lib.strCells s:=by simp [Lib.byteCells,Lib.strCells]
   rw [e,List.length_append,Lib.strCells_length,hbl];exact hown'
  exact h
 have HNB:Hid (NonB b w1 w2):=hid (show NonB b w1 w2 from fun k hk hkb hu=>hgrow.block k hk (fun e=>by
  rcases hown.2 with ⟨hv,_⟩ | ⟨g,cap',cur,hv,_,hh,_⟩
  ·rw [hv] at e;cases e
  ·rw [hv] at e;have:k=g:=by simpa [Value.ownBlock] using e
   subst this;exact hu _ _ hh))
 have HSZ:Hid (w1.heap.size≤w2.heap.size):=hid hgrow.size;clear hown';go_wp2;go_ret2;refine ⟨rfl,.inr ?_,?_,?_⟩
 ·exact Lib.BuilderAt.put (T:=195) (e:=5) hB hb2 HO.out (by decide)
 ·exact (hb1.grown hgrow (by have:=hb1.size;omega) (fun k hk=>(hown.lt k hk).1)).setCell (p:=⟨b,1,none⟩) hB _
 ·refine ((HN1.out.trans HNB.out (by rw [HS1.out];exact Nat.le_refl _)).trans (fun k _ hk _=>heap_setCell_other _ _ _ _ (fun e=>hk e)) ?_);rw [←HS1.out];exact HSZ.out
theorem FY (B b:Nat) (l:List UInt8) (c:UInt8) (w:World) (h:bQ w B b l) (hlen:l.length+1≤140737488355328) (hBw:B≤w.heap.size) :
 Calls Tryz.prog 145 #[.pointer (some ⟨b,0,none⟩),.int .u8 (c.toNat:Int)] w fun e w'=>e=.returned .nilIface∧bQ w' B b (l++[c])∧Below B w w'∧NonB b w w':=by
 obtain ⟨i0,hi,hz0,hz1,hz2⟩:=info_parts gS;have hbl:(Lib.byteCells l).length=l.length:=by simp [Lib.byteCells]
 go_enter Tryz.func145,Tryz.ntmps145
 go_wp2_with fail
 refine (vJ B b l _ h).mono ?_;rintro e w1 ⟨rfl,h1,hb1,hn1,hs1⟩;have HN1:=hid hn1;have HS1:=hid hs1;obtain ⟨hB,v,hbk,hown,hne⟩:=h1;have c0:w1.cell? ⟨b,0,none⟩=some (.pointer (some ⟨b,0,none⟩)):=by rw [Lib.cell_of_heap hbk];rfl
 have c1:w1.cell? ⟨b,1,none⟩=some v:=by rw [Lib.cell_of_heap hbk];rfl
 clear hn1 hs1;have hownB:bN w1 B v l:=by have h:=hown;rw [hbl] at h;exact h
 go_wp2_with (at_builtin;refine me rfl _ _ rfl B v l rfl (hownB.alloc _) ⟨w1.heap.size,0,none⟩ 1 rfl (c.toNat:Int) c ?c3 rfl ?c4 ?c5 ?_)
 case c3=>simp [Addr.add]
 case c4=>omega
 case c5=>have:=hb1.size;simp;omega
 intro v' w2 hown' hgrow0 _;have hgrow:w1.grownBy w2 v.ownBlock:=⟨hgrow0.os,hgrow0.tape,hgrow0.output,Nat.le_trans (by simp) hgrow0.size,fun k hk hne=>(hgrow0.block k (by simp;omega) hne).trans (Below.heap_alloc _ _ _ hk)⟩;have hlt:b<w1.heap.size:=by
  rcases Nat.lt_or_ge b w1.heap.size with h' | h'
  ·exact h'
  ·simp [Array.getElem?_eq_none h'] at hbk
 have hb2:w2.heap[b]? = some (.cells #[.pointer (some ⟨b,0,none⟩),v] 195 (0,0)):=by
  rw [hgrow.block b hlt (fun e=>hne e.symm)];exact hbk
 have d0:w2.cell? ⟨b,0,none⟩=some (.pointer (some ⟨b,0,none⟩)):=by rw [Lib.cell_of_heap hb2];rfl
 have d1:w2.cell? ⟨b,1,none⟩=some v:=by rw [Lib.cell_of_heap hb2];rfl
 have f1:w2.frozen? ⟨b,1,none⟩=false:=Lib.frozen_of_heap hb2 1;obtain ⟨ao,n',cap,rfl⟩:∃ ao n' cap,v'=.slice ao n' cap:=by
  rcases hown'.2 with ⟨hv,_⟩ | ⟨g,cap,cur,hv,_⟩
  ·exact ⟨_,_,_,hv⟩
  ·exact ⟨_,_,_,hv⟩
 have HO:Hid (w2.ownsRow B 5 1 (.slice ao n' cap) (Lib.byteCells (l++[c])).length (Lib.byteCells (l++[c]))):=by
  have h:w2.ownsRow B 5 1 (.slice ao n' cap) (Lib.byteCells (l++[c])).length (Lib.byteCells (l++[c])):=by
   have e:(Lib.byteCells (l++[c])).length=(l++[c]).length:=by simp [Lib.byteCells]
   rw [e];exact hown'
  exact h
 have HNB:Hid (NonB b w1 w2):=hid (show NonB b w1 w2 from fun k hk hkb hu=>hgrow.block k hk (fun e=>by
  rcases hown.2 with ⟨hv,_⟩ | ⟨g,cap',cur,hv,_,hh,_⟩
  ·rw [hv] at e;cases e
  ·rw [hv] at e;have:k=g:=by simpa [Value.ownBlock] using e
   subst this;exact hu _ _ hh))
 have HSZ:Hid (w1.heap.size≤w2.heap.size):=hid hgrow.size;clear hown' hownB;go_wp2;go_ret;refine ⟨rfl,.inr ?_,?_,?_⟩
 ·exact Lib.BuilderAt.put (T:=195) (e:=5) hB hb2 HO.out (by decide)
 ·exact (hb1.grown hgrow (by have:=hb1.size;omega) (fun k hk=>(hown.lt k hk).1)).setCell (p:=⟨b,1,none⟩) hB _
 ·refine ((HN1.out.trans HNB.out (by rw [HS1.out];exact Nat.le_refl _)).trans (fun k _ hk _=>heap_setCell_other _ _ _ _ (fun e=>hk e)) ?_);rw [←HS1.out];exact HSZ.out
theorem vH (B b:Nat) (l:List UInt8) (w:World) (h:bQ w B b l) :
 Calls Tryz.prog 147 #[.pointer (some ⟨b,0,none⟩)] w fun e w'=>e=.returned (.int .i64 (l.length:Int))∧w=w':=by
 have hbl:(Lib.byteCells l).length=l.length:=by simp [Lib.byteCells]
 obtain ⟨p,hB,v,hbk,hown,hne⟩:∃ p,Lib.BuilderAt 195 5 B b p (Lib.byteCells l) w:=by
  rcases h with h | h
  ·exact ⟨_,h⟩
  ·exact ⟨_,h⟩
 have c1:w.cell? ⟨b,1,none⟩=some v:=by rw [Lib.cell_of_heap hbk];rfl
 obtain ⟨a,cp,rfl⟩:∃ a cp,v=.slice a l.length cp:=by
  rcases hown.2 with ⟨hv,h0⟩ | ⟨g,cap,cur,hv,_⟩
  ·exact ⟨none,0,by rw [hv];rw [hbl] at h0;rw [h0]⟩
  ·exact ⟨_,_,by rw [hv,hbl]⟩
 generalize l.length=n at c1 ⊢;clear hown hbk hne hbl h;go_enter Tryz.func147,Tryz.ntmps147
 go_wp2;go_ret;exact ⟨rfl,rfl⟩
theorem G0 (B b:Nat) (l:List UInt8) (w:World) (h:bQ w B b l) (h0:l≠[]) :
 Calls Tryz.prog 93 #[.pointer (some ⟨b,0,none⟩)] w fun e w'=>e=.returned (.string ⟨l.toArray⟩)∧Below B w w':=by
 have hbl:(Lib.byteCells l).length=l.length:=by simp [Lib.byteCells]
 obtain ⟨p,hB,v,hbk,hown,hne⟩:∃ p,Lib.BuilderAt 195 5 B b p (Lib.byteCells l) w:=by
  rcases h with h | h
  ·exact ⟨_,h⟩
  ·exact ⟨_,h⟩
 rw [hbl] at hown;have hpos:0<l.length:=List.length_pos_iff.2 h0;obtain ⟨g,cap,cur,hv,hbg,hg,hcl,hcm,hcs⟩:∃ g cap cur,v=.slice (some ⟨g,0,none⟩) l.length cap∧B≤g∧w.heap[g]? = some (.cells cur 5 (0,0))∧l.length≤cap∧cap≤maxLen∧cur.size=cap * 1:=by
  rcases hown.2 with ⟨hv,hn⟩ | ⟨g,cap,cur,hv,hb,hh,hc,hm,hs,_⟩
  ·exact absurd hn (by omega)
  ·exact ⟨g,cap,cur,hv,hb,hh,hc,hm,hs⟩
 subst hv;have c1:w.drew.cell? ⟨b,1,none⟩=some (.slice (some ⟨g,0,none⟩) l.length cap):=by
  have:w.drew.heap[b]? = some (.cells #[p,.slice (some ⟨g,0,none⟩) l.length cap] 195 (0,0)):=hbk;rw [Lib.cell_of_heap this];rfl
 have hSD:(Builtin.unsafeSliceData_ #[142] 178 #[.slice (some ⟨g,0,none⟩) l.length cap]).run Tryz.prog w.drew=.ok (.pointer (some ⟨g,0,none⟩)) w.drew :=
  Lib.run_unsafeSliceData_row _ _ _ _ _ _ (by omega)
 have hUS:(Builtin.unsafeString_ #[178,3] 9 #[.pointer (some ⟨g,0,none⟩),.int .i64 l.length]).run Tryz.prog w.drew=.ok (.string ⟨l.toArray⟩) (w.drew.freeze ⟨g,0,none⟩ l.length):=by
  refine Lib.run_unsafeString_row w.drew 178 3 9 5 Tryz.underlying178 (by kernel_rfl) g cur.size (by have hg':w.drew.heap[g]? = some (.cells cur 5 (0,0)):=hg;simp [World.shape?,hg']) l h0 (by omega) (by unfold maxLen at hcm;omega) ?_;intro j x hx;have:=hown.cells (g:=g) rfl j (.int .u8 x.toNat) (by simp [Lib.byteCells,hx]);exact this
 clear hown hcl hcm hpos hcs;go_enter Tryz.func93,Tryz.ntmps93
 go_wp2;go_region
 all_goals (go_wp2;go_ret;exact ⟨rfl,Lib.below_freeze (Below.drew (Below.refl B w)) (p:=⟨g,0,none⟩) hbg _⟩)
end
