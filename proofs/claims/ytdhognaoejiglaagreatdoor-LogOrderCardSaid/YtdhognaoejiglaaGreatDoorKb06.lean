import Derived.Test.YtdhognaoejiglaaGreatDoorKb05
import Derived.StillTailTactics
namespace Go.Proofs.YtdhognaoejiglaaGreatDoor
open Lib (hid)
set_option maxRecDepth 100000
set_option maxHeartbeats 8000000
section
open Go.ChangeShapes Go.WideShapes Go.ChangeAt Go.RowKit
theorem AD:laidOutB Tryz.prog=true:=by kernel_rfl
instance : Inhabited Ent := ⟨⟨0, 0⟩⟩
theorem F3 {H:Type} {enc:TypeId×Value→H} {P:Program} {W:World} {spare:Nat→Bool} {held:Bool} {n:Nat} {t:TypeId} {cs:List Value} {x:DataW H×List MemPlace} {p q:Field}
 (ht:P.underlying t=some (.struct #[p,q])) (h1:Go.Deep.oneCellFields P #[p,q]=true) (h3:P.cellsOf t=2)
 (h:DataW.trod enc P W 0 spare held n t cs=some x) :
 ∃ (a b:Value) (u v:DataW H×List MemPlace) (m:Nat),cs=[a,b]∧x.1=.agg [u.1,v.1] ∧
  DataW.trod enc P W 0 spare held m p.type [a]=some u∧DataW.trod enc P W 0 spare held m q.type [b]=some v:=by
 obtain ⟨xs,m,_,hx,hl,hxl,hf⟩:=DataW.trod_struct ht h;rw [h3] at hl;have hxl':xs.length=2:=hxl
 match cs,hl with
 | [a,b],_ =>
  match xs,hxl' with
  | [u,v],_ =>
   have one:=Go.Deep.hone_of h1;have g0:=hf 0 p rfl;have g1:=hf 1 q rfl;rw [(one 0 p rfl).1,(one 0 p rfl).2] at g0;rw [(one 1 q rfl).1,(one 1 q rfl).2] at g1;exact ⟨a,b,u,v,m,rfl,by rw [hx];rfl,g0,g1⟩
theorem yW {H:Type} {enc:TypeId×Value→H} {W:World} {spare:Nat→Bool} {held:Bool} {n:Nat} {cs:List Value} {x:DataW H×List MemPlace}
 (h:DataW.trod enc Tryz.prog W 0 spare held n 58 cs=some x):∃ t:Ent,cs=entC t:=by
 obtain ⟨a,b,u,v,m,rfl,hx,g0,g1⟩:=F3 Tryz.underlying58 (by kernel_rfl) (by kernel_rfl) h;obtain ⟨k,e0,f0,_⟩:=DataW.trod_int Tryz.underlying3 g0;obtain ⟨z,e1,f1,_⟩:=DataW.trod_int Tryz.underlying3 g1;have e0':a=.int .i64 k:=List.head_eq_of_cons_eq e0;have e1':b=.int .i64 z:=List.head_eq_of_cons_eq e1;exact ⟨⟨k,z⟩,by rw [e0',e1'];rfl⟩
theorem yX {H:Type} {enc:TypeId×Value→H} {W:World} {spare:Nat→Bool} {held:Bool} {a0:Option Addr} {len0 cap0 fuel:Nat} {d:DataW H} {p:List MemPlace}
 (hf:DataW.trod enc Tryz.prog W 0 spare held fuel 32 [.slice a0 len0 cap0]=some (d,p)) :
 ∃ l:List Ent,ae W (.slice a0 len0 cap0) l∧l.length=len0∧len0≤cap0∧cap0≤maxLen:=by
 rcases Go.Deep.open_slice Tryz.underlying32 hf with ⟨hcs,_⟩ | ⟨a,ln,cp,m,n,D,Pl,hcs,_,hl,hm,hmm,hx,hi⟩
 ·simp only [List.cons.injEq,Value.slice.injEq,and_true] at hcs
  obtain ⟨rfl,rfl,rfl⟩:=hcs;exact ⟨[],.inl ⟨_,_,rfl,rfl⟩,rfl,Nat.le_refl _,by unfold maxLen;omega⟩
 ·simp only [List.cons.injEq,Value.slice.injEq,and_true] at hcs
  obtain ⟨rfl,rfl,rfl⟩:=hcs;have h3:Tryz.prog.cellsOf 58=2:=by kernel_rfl
  rw [h3] at hi;have hle:len0≤m:=by rw [hmm];split <;> omega
  obtain ⟨f,hfc⟩:=Go.Deep.choose_lt (n:=len0) (p:=fun i (t:Ent)=>W.cells? 0 (a.add (i * 2)) 2=some (entC t)) (fun i hlt=>by
   obtain ⟨cs',hc,ht⟩:=hi i (by omega);obtain ⟨t,h1⟩:=yW ht;exact ⟨t,by rw [hc,h1]⟩)
  have hll:((List.range len0).map f).length=len0:=by simp
  refine ⟨(List.range len0).map f,?_,hll,hl,hm⟩;by_cases hz:len0=0
  ·subst hz;exact .inl ⟨_,_,rfl,rfl⟩
  ·obtain ⟨b,off,spot⟩:=a;have hcell:∀ i,i<len0→∀ r,r<2→W.cell? ((⟨b,off,spot⟩:Addr).add (i * 2+r))=(entC (f i))[r]? := fun i hlt r hr=>by
    obtain ⟨_,_,hat⟩:=World.cells?_some (hfc i hlt);rw [←Go.Deep.add_add];exact hat r hr
   have h0:=hcell 0 (by omega) 0 (by omega);have hspot:spot=none:=by simpa [Addr.add] using World.cell?_spot (h0.trans rfl)
   subst hspot;refine .inr ⟨b,off,cap0,by rw [hll],⟨by rw [hll];omega,by rw [hll];omega⟩,block_lt_of_cell (h0.trans rfl),fun j u hj=>?_⟩;have hjl:j<len0 * 2:=by rw [←hll,←gL];exact (List.getElem?_eq_some_iff.1 hj).1
   have hc:=hcell (j / 2) (by omega) (j % 2) (Nat.mod_lt _ (by decide));have hti:((List.range len0).map f)[j / 2]? = some (f (j / 2)):=by
    rw [List.getElem?_map,List.getElem?_range (by omega)];rfl
   have h5:=fx _ _ (j % 2) _ hti (Nat.mod_lt _ (by decide));rw [show j / 2 * 2+j % 2=j by omega] at hc h5;rw [←h5,hj] at hc;rw [←hc];refine congrArg W.cell? ?_;unfold Addr.add;split
   ·rename_i e;rw [e];rfl
   ·rfl
end
section
open Go.RowKit
theorem CW (x:Int) (w:World) (h0:0≤x) (h1:x<4294967296) :
 Calls Tryz.prog 203 #[.int .u32 x] w fun e w'=>e=.returned (.int .u32 (pass x.toNat:Nat))∧w=w':=by
 obtain ⟨n,rfl⟩:=Int.eq_ofNat_of_zero_le h0;have hn:n<4294967296:=by omega
 clear h0 h1;go_enter Tryz.func203,Tryz.ntmps203
 go_wp2
 go_loop [0,4] (fun s i=>∃ k:Nat,k≤8∧i=.int .i64 k∧s=.int .u32 (stn k n:Nat)) (fun _ i=>8-(intOf i).toNat)
 case atStart=>exact ⟨0,by omega,rfl,rfl⟩
 case round =>
  obtain ⟨k,hk,rfl,rfl⟩:=hrel;have hs:=tX k hn;by_cases hlt:k<8
  ·go_wp2
   ·have ht:=xb hs (by assumption)
    go_round
    case rel=>exact ⟨k+1,by omega,by go_num,by rw [Ec hs ht];rfl⟩
    case measure=>simp [intOf];omega
   ·have ht:=xa hs (by assumption)
    go_round
    case rel=>exact ⟨k+1,by omega,by go_num,by rw [Eb ht];rfl⟩
    case measure=>simp [intOf];omega
  ·obtain rfl:k=8:=by omega
   go_wp2;go_ret;exact ⟨rfl,rfl⟩
end
section
def putT (t:Tok):List UInt8 :=
 if t.own.size=0 then putL (2 * (t.size.toNat-4)+1)++putL (t.back.toNat-1) else putL (2 * t.own.size)++t.own.data.toList
def bu (l:List Tok):List UInt8:=l.flatMap putT
theorem mj (t:Tok) (l:List Tok):bu (t::l)=putT t++bu l:=by simp [bu]
theorem vW:bu []=[]:=rfl
theorem vV (l m:List Tok):bu (l++m)=bu l++bu m:=by simp [bu]
def ef (l:List Tok):List UInt8:=if (am l 0 0).1=0 then bu l else []
def bkL (l:List UInt8):Nat×Nat×Nat:=if (getL l).2.2≠0 then (0,0,(getL l).2.2) else if 1023<(getL l).1 then (0,0,2) else getL l
def getT (l:List UInt8):(Nat×Nat) ⊕ (Tok×Nat) :=
 if (getL l).2.2≠0 then .inl ((getL l).2.2,0)
 else if (getL l).1 % 2=0 then
  if (getL l).1=0 then .inl (3,0)
  else if l.length<(getL l).2.1+(getL l).1 / 2 then .inl (7,l.length)
  else .inr (⟨⟨((l.drop (getL l).2.1).take ((getL l).1 / 2)).toArray⟩,0,0⟩,(getL l).2.1+(getL l).1 / 2)
 else if 63<(getL l).1 / 2 then .inl (2,0)
 else if (bkL (l.drop (getL l).2.1)).2.2≠0 then .inl ((bkL (l.drop (getL l).2.1)).2.2,(getL l).2.1)
 else .inr (repT ((bkL (l.drop (getL l).2.1)).1+1) ((getL l).1 / 2+4),(getL l).2.1+(bkL (l.drop (getL l).2.1)).2.1)
theorem rE {l:List UInt8} {n k e:Nat} (h:getL l=(n,k,e)) (he:e≠0):getT l=.inl (e,0):=by
 unfold getT;rw [h];rw [if_pos (by exact he)]
theorem rG {l:List UInt8} {k:Nat} (h:getL l=(0,k,0)):getT l=.inl (3,0):=by
 unfold getT;rw [h];rw [if_neg (by simp),if_pos (by rfl),if_pos rfl]
theorem rD {l:List UInt8} {n k:Nat} (h:getL l=(n,k,0)) (h2:n % 2=0) (h0:n≠0) (hl:l.length<k+n / 2):getT l=.inl (7,l.length):=by
 unfold getT;rw [h];rw [if_neg (by simp),if_pos h2,if_neg h0,if_pos hl]
theorem nm {l:List UInt8} {n k:Nat} (h:getL l=(n,k,0)) (h2:n % 2=0) (h0:n≠0) (hl:¬ l.length<k+n / 2) :
 getT l=.inr (⟨⟨((l.drop k).take (n / 2)).toArray⟩,0,0⟩,k+n / 2):=by
 unfold getT;rw [h];rw [if_neg (by simp),if_pos h2,if_neg h0,if_neg hl]
theorem rA {l:List UInt8} {n k:Nat} (h:getL l=(n,k,0)) (h2:¬ n % 2=0) (hb:63<n / 2):getT l=.inl (2,0):=by
 unfold getT;rw [h];rw [if_neg (by simp),if_neg h2,if_pos hb]
theorem rz {l:List UInt8} {n k m j e:Nat} (h:getL l=(n,k,0)) (h2:¬ n % 2=0) (hb:¬ 63<n / 2) (hk:bkL (l.drop k)=(m,j,e)) (he:e≠0):getT l=.inl (e,k):=by
 unfold getT;rw [h];rw [if_neg (by simp),if_neg h2,if_neg hb];simp only [hk]
 rw [if_pos he]
theorem np {l:List UInt8} {n k m j:Nat} (h:getL l=(n,k,0)) (h2:¬ n % 2=0) (hb:¬ 63<n / 2) (hk:bkL (l.drop k)=(m,j,0)):getT l=.inr (repT (m+1) (n / 2+4),k+j):=by
 unfold getT;rw [h];rw [if_neg (by simp),if_neg h2,if_neg hb];simp only [hk]
 rw [if_neg (by simp)]
theorem xE {l:List UInt8} {n k e:Nat} (h:getL l=(n,k,e)) (he:e≠0):bkL l=(0,0,e):=by
 unfold bkL;rw [h];rw [if_pos (by exact he)]
theorem xF {l:List UInt8} {n k:Nat} (h:getL l=(n,k,0)) (hm:1023<n):bkL l=(0,0,2):=by
 unfold bkL;rw [h];rw [if_neg (by simp),if_pos hm]
theorem qi {l:List UInt8} {n k:Nat} (h:getL l=(n,k,0)) (hm:¬ 1023<n):bkL l=(n,k,0):=by
 unfold bkL;rw [h];rw [if_neg (by simp),if_neg hm]
theorem qg (l:List UInt8):(∃ e,bkL l=(0,0,e)∧e≠0)∨∃ m j,bkL l=(m,j,0)∧getL l=(m,j,0)∧m≤1023:=by
 obtain ⟨n,k,e,h⟩:∃ n k e,getL l=(n,k,e):=⟨_,_,_,rfl⟩;by_cases he:e=0
 ·subst he;by_cases hm:1023<n
  ·exact .inl ⟨2,xF h hm,by omega⟩
  ·exact .inr ⟨n,k,qi h hm,h,by omega⟩
 ·exact .inl ⟨e,xE h he,he⟩
def fine (t:Tok):Prop :=
 (t.own.size≠0∧t.size=0∧t.back=0)∨(t.own.size=0∧4≤t.size∧t.size≤67∧1≤t.back∧t.back≤1024)
theorem zm {t:Tok} {a:Nat} (h:aF t a=0):fine t:=by
 rcases jG h with ⟨h1,h2,h3,_⟩ | ⟨h1,h2,h3,h4,h5,_,_⟩
 ·exact .inl ⟨h1,h2,h3⟩
 ·exact .inr ⟨h1,h2,h3,h4,h5⟩
theorem lm {t:Tok} (h:t.own.size≠0):putT t=putL (2 * t.own.size)++t.own.data.toList:=by unfold putT;rw [if_neg h]
theorem lq {t:Tok} (h:t.own.size=0):putT t=putL (2 * (t.size.toNat-4)+1)++putL (t.back.toNat-1):=by unfold putT;rw [if_pos h]
theorem tq (t:Tok):0<(putT t).length:=by
 unfold putT;split
 ·rw [List.length_append];have:=ia (2 * (t.size.toNat-4)+1);omega
 ·rw [List.length_append];have:=ia (2 * t.own.size);omega
theorem xL {s:ByteArray} (h:s.size=0):s=⟨#[]⟩:=by
 apply jX
 rw [aj] at h;exact List.length_eq_zero_iff.1 h
theorem zF (t:Tok) (more:List UInt8) (h:fine t) (hs:t.own.size≤140737488351232):getT (putT t++more)=.inr (t,(putT t).length):=by
 obtain ⟨s,b,z⟩:=t;rcases h with ⟨h1,h2,h3⟩ | ⟨h1,h2,h3,h4,h5⟩
 ·simp only at h1 h2 h3 hs
  subst h2 h3;rw [lm h1];simp only
  have hg:=fB (2 * s.size) (s.data.toList++more) (by omega);rw [←List.append_assoc] at hg;have e:(2 * s.size) / 2=s.size:=by omega
  rw [nm hg (by omega) (by omega) (by rw [List.length_append,List.length_append,←aj];omega),e];have e2:((putL (2 * s.size)++s.data.toList++more).drop (putL (2 * s.size)).length).take s.size=s.data.toList:=by
   rw [List.append_assoc,List.drop_left,aj,List.take_left]
  rw [e2,bW,List.length_append,←aj]
 ·simp only at h1 h2 h3 h4 h5
  rw [lq h1];simp only
  have hg:=fB (2 * (z.toNat-4)+1) (putL (b.toNat-1)++more) (by omega);rw [←List.append_assoc] at hg;have hd:(putL (2 * (z.toNat-4)+1)++putL (b.toNat-1)++more).drop (putL (2 * (z.toNat-4)+1)).length=putL (b.toNat-1)++more:=by
   rw [List.append_assoc,List.drop_left]
  have hk:=qi (fB (b.toNat-1) more (by omega)) (by omega);rw [np hg (by omega) (by omega) (by rw [hd];exact hk),List.length_append];have e1:repT (b.toNat-1+1) ((2 * (z.toNat-4)+1) / 2+4)=⟨s,b,z⟩:=by
   unfold repT;rw [xL h1]
   congr 1 <;> omega
  rw [e1]
theorem rF {l:List UInt8} {t:Tok} {k:Nat} (h:getT l=.inr (t,k)):1≤k∧k≤l.length∧putT t=l.take k∧fine t∧t.own.size≤l.length:=by
 obtain ⟨n,j,e,hg⟩:∃ n k e,getL l=(n,k,e):=⟨_,_,_,rfl⟩;by_cases he:e=0
 ·subst he;obtain ⟨g1,g2,g3⟩:=gb hg;by_cases h2:n % 2=0
  ·by_cases h0:n=0
   ·subst h0;rw [rG hg] at h;cases h
   ·by_cases hl:l.length<j+n / 2
    ·rw [rD hg h2 h0 hl] at h;cases h
    ·rw [nm hg h2 h0 hl] at h;injection h with h
     injection h with ht hk
     subst ht hk;have hlen:((l.drop j).take (n / 2)).length=n / 2:=by rw [List.length_take,List.length_drop];omega
     have hsz:(⟨((l.drop j).take (n / 2)).toArray⟩:ByteArray).size=n / 2:=by rw [cq,hlen]
     refine ⟨by omega,by omega,?_,.inl ⟨by simp only [hsz];omega,rfl,rfl⟩,by simp only [hsz];omega⟩;rw [lm (by simp only [hsz];omega)];simp only [hsz]
     rw [show 2 * (n / 2)=n by omega,g3,List.take_add]
  ·by_cases hb:63<n / 2
   ·rw [rA hg h2 hb] at h;cases h
   ·rcases qg (l.drop j) with ⟨e,hk,he⟩ | ⟨m,i,hk,hm,hm2⟩
    ·rw [rz hg h2 hb hk he] at h;cases h
    ·rw [np hg h2 hb hk] at h;injection h with h
     injection h with ht hkk
     subst ht hkk;obtain ⟨q1,q2,q3⟩:=gb hm;rw [List.length_drop] at q2;have hz:(repT (m+1) (n / 2+4)).own.size=0:=rfl;refine ⟨by omega,by omega,?_,.inr ⟨hz,?_,?_,?_,?_⟩,by rw [hz];omega⟩
     ·rw [lq hz];have e1:(repT (m+1) (n / 2+4)).size.toNat=n / 2+4:=by show (((n / 2+4:Nat):Int)).toNat=_;omega
      have e2:(repT (m+1) (n / 2+4)).back.toNat=m+1:=by show (((m+1:Nat):Int)).toNat=_;omega
      rw [e1,e2,show 2 * (n / 2+4-4)+1=n by omega,show m+1-1=m by omega,g3,q3,List.take_add]
     ·show (4:Int)≤((n / 2+4:Nat):Int);omega
     ·show ((n / 2+4:Nat):Int)≤67;omega
     ·show (1:Int)≤((m+1:Nat):Int);omega
     ·show ((m+1:Nat):Int)≤1024;omega
 ·rw [rE hg he] at h;cases h
def rdF (s:List UInt8):Nat→Nat→List Tok→List Nat→(Nat×Nat) ⊕ (List Tok×List Nat)
 | 0,_,l,b=>.inr (l,b)
 | f+1,a,l,b=>if a<s.length then match getT (s.drop a) with
  | .inl (e,p)=>.inl (e,a+p)
  | .inr (t,k)=>rdF s f (a+k) (l++[t]) (b++[a]) else .inr (l,b)
theorem jk {s:List UInt8} {f a:Nat} {l:List Tok} {b:List Nat} (h:¬ a<s.length):rdF s f a l b=.inr (l,b):=by
 cases f with
 | zero=>rfl
 | succ f=>rw [rdF,if_neg h]
theorem ly {s:List UInt8} {f a e p:Nat} {l:List Tok} {b:List Nat} (h:a<s.length) (hg:getT (s.drop a)=.inl (e,p)):rdF s (f+1) a l b=.inl (e,a+p):=by
 rw [rdF,if_pos h,hg]
theorem jl {s:List UInt8} {f a k:Nat} {t:Tok} {l:List Tok} {b:List Nat} (h:a<s.length) (hg:getT (s.drop a)=.inr (t,k)):rdF s (f+1) a l b=rdF s f (a+k) (l++[t]) (b++[a]):=by
 rw [rdF,if_pos h,hg]
def aL (s:List UInt8):(Nat×Int)×List Tok :=
 match rdF s s.length 0 [] [] with
 | .inl (e,p)=>((e,(p:Int)),[])
 | .inr (l,b)=>if (am l 0 0).1=0 then ((0,-1),l) else (((am l 0 0).1,((b.getD (am l 0 0).2.toNat 0:Nat):Int)),[])
theorem oo {s:List UInt8} {e p:Nat} (h:rdF s s.length 0 [] []=.inl (e,p)):aL s=((e,(p:Int)),[]):=by unfold aL;rw [h]
theorem lz {s:List UInt8} {l:List Tok} {b:List Nat} (h:rdF s s.length 0 [] []=.inr (l,b)) (hr:(am l 0 0).1=0):aL s=((0,-1),l):=by unfold aL;rw [h];exact if_pos hr
theorem oq {s:List UInt8} {l:List Tok} {b:List Nat} (h:rdF s s.length 0 [] []=.inr (l,b)) (hr:¬ (am l 0 0).1=0) :
 aL s=(((am l 0 0).1,((b.getD (am l 0 0).2.toNat 0:Nat):Int)),[]):=by unfold aL;rw [h];exact if_neg hr
theorem Dc (s:List UInt8):∀ (m:List Tok) (f a:Nat) (l:List Tok) (b:List Nat),(∀ t∈m,fine t∧t.own.size≤140737488351232)→s.drop a=bu m→a≤s.length→s.length≤a+f→∃ b',rdF s f a l b=.inr (l++m,b'):=by
 intro m
 induction m with
 | nil =>
  intro f a l b _ hd ha _;have hlen:=congrArg List.length hd;rw [List.length_drop,vW,List.length_nil] at hlen;exact ⟨b,by rw [jk (by omega),List.append_nil]⟩
 | cons t m ih =>
  intro f a l b hm hd ha hf;rw [mj] at hd;have hlen:=congrArg List.length hd;rw [List.length_drop,List.length_append] at hlen;have hp:=tq t;obtain ⟨h1,h2⟩:=hm t (List.mem_cons_self ..);cases f with
  | zero=>omega
  | succ f =>
   rw [jl (by omega) (by rw [hd];exact zF t _ h1 h2)];obtain ⟨b',hb⟩:=ih f (a+(putT t).length) (l++[t]) (b++[a]) (fun u hu=>hm u (List.mem_cons_of_mem _ hu)) (by rw [←List.drop_drop,hd,List.drop_left]) (by omega) (by omega);exact ⟨b',by rw [hb,List.append_assoc];rfl⟩
theorem ow {l:List Tok} {i a:Nat} (h:(am l i a).1=0):∀ t∈l,fine t∧t.own.size≤140737488351232:=by
 induction l generalizing i a with
 | nil=>intro t ht;cases ht
 | cons u r ih =>
  obtain ⟨h1,h2⟩:=jm h;intro t ht;rcases List.mem_cons.1 ht with rfl | ht
  ·refine ⟨zm h1,?_⟩;have:=ml h1;unfold lenT at this;omega
  ·exact ih h2 t ht
theorem Dk {l:List Tok} (h:(am l 0 0).1=0):aL (bu l)=((0,-1),l):=by
 obtain ⟨b,hb⟩:=Dc (bu l) l (bu l).length 0 [] [] (ow h) rfl (Nat.zero_le _) (by omega);rw [List.nil_append] at hb;exact lz hb h
theorem Db (s:List UInt8):∀ (f a:Nat) (l m:List Tok) (b b':List Nat),a≤s.length→s.length≤a+f→rdF s f a l b=.inr (m,b')→∃ r,m=l++r∧bu r=s.drop a∧∀ t∈r,fine t∧t.own.size≤s.length:=by
 intro f
 induction f with
 | zero =>
  intro a l m b b' ha hf h;rw [rdF] at h;injection h with h
  injection h with h1 h2
  exact ⟨[],by rw [←h1,List.append_nil],by rw [List.drop_eq_nil_of_le (by omega)];rfl,fun t ht=>by cases ht⟩
 | succ f ih =>
  intro a l m b b' ha hf h;by_cases hlt:a<s.length
  ·match hg:getT (s.drop a) with
   | .inl (e,p)=>rw [ly hlt hg] at h;cases h
   | .inr (t,k) =>
    rw [jl hlt hg] at h;obtain ⟨h1,h2,h3,h4,h5⟩:=rF hg;rw [List.length_drop] at h2 h5;obtain ⟨r,hr,hw,hr2⟩:=ih (a+k) (l++[t]) m (b++[a]) b' (by omega) (by omega) h;refine ⟨t::r,by rw [hr,List.append_assoc];rfl,?_,fun u hu=>?_⟩
    ·rw [mj,hw,h3,←List.drop_drop,List.take_append_drop]
    ·rcases List.mem_cons.1 hu with rfl | hu
     ·exact ⟨h4,by omega⟩
     ·exact hr2 u hu
  ·rw [jk hlt] at h;injection h with h
   injection h with h1 h2
   exact ⟨[],by rw [←h1,List.append_nil],by rw [List.drop_eq_nil_of_le (by omega)];rfl,fun t ht=>by cases ht⟩
theorem Dj {s:List UInt8} (h:(aL s).1.1=0):(am (aL s).2 0 0).1=0∧bu (aL s).2=s:=by
 match hr:rdF s s.length 0 [] [] with
 | .inl (e,p) =>
  exfalso
  rw [oo hr] at h;simp only at h
  have:∀ (f a:Nat) (l:List Tok) (b:List Nat) (e p:Nat),rdF s f a l b=.inl (e,p)→e≠0:=by
   intro f
   induction f with
   | zero=>intro a l b e p h;cases h
   | succ f ih =>
    intro a l b e p h;by_cases hlt:a<s.length
    ·match hg:getT (s.drop a) with
     | .inl (e',p') =>
      rw [ly hlt hg] at h;injection h with h
      injection h with h1 h2
      subst h1;intro h0;subst h0;unfold getT at hg;split at hg
      ·rename_i hne;injection hg with hg;injection hg with hg _;exact hne hg
      ·split at hg
       ·split at hg
        ·injection hg with hg;injection hg with hg _;omega
        ·split at hg
         ·injection hg with hg;injection hg with hg _;omega
         ·cases hg
       ·split at hg
        ·injection hg with hg;injection hg with hg _;omega
        ·split at hg
         ·rename_i hne;injection hg with hg;injection hg with hg _;exact hne hg
         ·cases hg
     | .inr (t,k)=>rw [jl hlt hg] at h;exact ih _ _ _ _ _ h
    ·rw [jk hlt] at h;cases h
  exact this _ _ _ _ _ _ hr h
 | .inr (l,b) =>
  by_cases hw:(am l 0 0).1=0
  ·rw [lz hr hw];obtain ⟨r,h1,h2,_⟩:=Db s s.length 0 [] l [] b (Nat.zero_le _) (by omega) hr;rw [List.nil_append] at h1;subst h1;exact ⟨hw,h2⟩
  ·rw [oq hr hw] at h;exact absurd h hw
end
section
open Go.RowKit
theorem zc {l m:List Ent} {k:Nat} (h:l.take k=m.take k) {t u:Ent} (hl:l[k]? = some t) (hm:m[k]? = some u) (e:t=u):l.take (k+1)=m.take (k+1):=by
 obtain ⟨h1,h2⟩:=List.getElem?_eq_some_iff.1 hl;obtain ⟨h3,h4⟩:=List.getElem?_eq_some_iff.1 hm;rw [List.take_succ_eq_append_getElem h1,List.take_succ_eq_append_getElem h3,h,h2,h4,e]
theorem ze (v1 v2:Value) (l m:List Ent) (w:World) (h1:ae w v1 l) (h2:ae w v2 m) (hl:l.length≤9223372036854775807) (hm:m.length≤9223372036854775807) :
 Calls Tryz.prog 29 #[v1,v2] w fun e w'=>e=.returned (.bool (decide (l=m)))∧∃ q,w'=w.drewN q:=by
 obtain ⟨a1,c1,rfl,f1⟩:=h1.form;obtain ⟨a2,c2,rfl,f2⟩:=h2.form;have F1:=hid f1;have F2:=hid f2;obtain ⟨n,hn⟩:∃ n,n=l.length:=⟨_,rfl⟩;obtain ⟨n2,hn2⟩:∃ n,n=m.length:=⟨_,rfl⟩;rw [←hn] at hl ⊢;rw [←hn2] at hm ⊢;have HN:=hid hn;have HN2:=hid hn2;clear h1 h2 f1 f2 hn hn2;by_cases hne:n=n2
 ·subst hne;go_enter Tryz.func29,Tryz.ntmps29
  go_wp2
  go_loopw [13] (fun i wr=>∃ k q:Nat,k≤n∧i=.int .i64 k∧l.take k=m.take k∧wr=w.drewN q) (fun i _=>n-(intOf i).toNat)
  case atStart=>exact ⟨0,0,by omega,rfl,rfl,rfl⟩
  case round =>
   obtain ⟨k,q,hk,rfl,htk,rfl⟩:=hrel;have HTK:=hid htk;clear htk;by_cases hlt:k<n
   ·obtain ⟨t, ht⟩ : ∃ t, l[k]? = some t := ⟨l[k]'(by have := HN.out; omega), List.getElem?_eq_getElem _⟩;obtain ⟨u, hu⟩ : ∃ u, m[k]? = some u := ⟨m[k]'(by have := HN2.out; omega), List.getElem?_eq_getElem _⟩;obtain ⟨b1,o1,rfl,_,p0,p1⟩:=F1.out k t ht;obtain ⟨b2,o2,rfl,_,q0,q1⟩:=F2.out k u hu;have HTT:=hid ht;have HUU:=hid hu;clear ht hu;obtain ⟨r1,t1⟩:=t;obtain ⟨r2,t2⟩:=u;simp only at p0 p1 q0 q1
    by_cases hr:r1=r2
    ·by_cases ht:t1=t2
     ·subst hr ht;have HST:=hid (zc HTK.out HTT.out HUU.out rfl);go_wp2
      go_quiet (fail)
      go_wp2;go_roundw
      case rel=>exact ⟨k+1,_,by omega,by go_num,HST.out,rfl⟩
      case measure=>simp [intOf];omega
     ·subst hr;have HE:Hid (decide (l=m)=false):=hid (show decide (l=m)=false by
       rw [decide_eq_false_iff_not];rintro rfl;have:=HTT.out.symm.trans HUU.out;simp at this;exact ht this)
      have x1:(t1 == t2)=false:=by simpa using ht
      have x2:(t1 != t2)=true:=by simpa using ht
      go_wp2
      go_quiet (fail)
      go_wp2;go_ret;exact ⟨by rw [HE.out];rfl,by first | exact ⟨_,rfl⟩ | exact ⟨_,by rw [World.drewN_drewN]⟩⟩
    ·have HE : Hid (decide (l = m) = false) := hid (show decide (l = m) = false by
      rw [decide_eq_false_iff_not];rintro rfl;have:=HTT.out.symm.trans HUU.out;simp at this;exact hr this.1)
     have x1:(r1 == r2)=false:=by simpa using hr
     have x2:(r1 != r2)=true:=by simpa using hr
     go_wp2
     go_quiet (fail)
     go_wp2;go_ret;exact ⟨by rw [HE.out];rfl,by first | exact ⟨_,rfl⟩ | exact ⟨_,by rw [World.drewN_drewN]⟩⟩
   ·have HE : Hid (decide (l = m) = true) := hid (show decide (l = m) = true by
     rw [decide_eq_true_eq];have h:=HTK.out;rw [List.take_of_length_le (by have:=HN.out;omega),List.take_of_length_le (by have:=HN2.out;omega)] at h;exact h)
    go_wp2;go_ret;exact ⟨by rw [HE.out];rfl,by first | exact ⟨_,rfl⟩ | exact ⟨_,by rw [World.drewN_drewN]⟩⟩
 ·have HE : Hid (decide (l = m) = false) := hid (show decide (l = m) = false by
   rw [decide_eq_false_iff_not];rintro rfl;exact hne (HN.out.trans HN2.out.symm))
  have x1:((n:Int) == (n2:Int))=false:=by simp;omega
  have x2:((n:Int) != (n2:Int))=true:=by simp;omega
  rw [HE.out];go_enter Tryz.func29,Tryz.ntmps29
  go_wp2;go_ret;exact ⟨rfl,0,rfl⟩
theorem kr (v1 v2:Value) (l m:List Ent) (c:Bool) (w:World) (h1:ae w v1 l) (h2:ae w v2 m) (hl:l.length≤9223372036854775807) (hm:m.length≤9223372036854775807) (hc:decide (l=m)=c) :
 Calls Tryz.prog 29 #[v1,v2] w fun e w'=>e=.returned (.bool c)∧∃ q,w'=w.drewN q :=
 (ze v1 v2 l m w h1 h2 hl hm).mono fun _ _ ⟨h1,h2⟩=>⟨by rw [h1,hc],h2⟩
end
section
open Go.RowKit
theorem sH {n:Nat} (h:n<4294967296):bits .xor .u32 IntKind.u32.max (n:Int)=(inv n:Nat):=by
 rw [show IntKind.u32.max=((4294967295:Nat):Int) from by decide,u32_xor_nat _ _ (by decide) h,Nat.xor_comm];rfl
theorem GO {n:Nat} (h:n<4294967296) (c:UInt8):bits .xor .u32 (n:Int) ((c.toNat:Int) % 4294967296)=((n ^^^ c.toNat:Nat):Int):=by
 have:=kc c;rw [Int.emod_eq_of_lt (by omega) (by omega)];exact u32_xor_nat _ _ h (kc c)
theorem EB (s:ByteArray) (c k:Nat) (h:k<s.size):run c (s.data.toList.take (k+1))=pass (run c (s.data.toList.take k) ^^^ s[k].toNat) :=
 Dz c s.data.toList k (by simpa using h)
theorem EA (s:ByteArray):s.data.toList.take s.size=s.data.toList:=List.take_of_length_le (by simp)
theorem Bv (x:Int) (s:ByteArray) (w:World) (h0:0≤x) (h1:x<4294967296) (hs:s.size≤maxLen) :
 Calls Tryz.prog 175 #[.int .u32 x,.string s] w fun e w'=>e=.returned (.int .u32 (more x.toNat s.data.toList:Nat))∧w=w':=by
 unfold maxLen at hs;obtain ⟨n,rfl⟩:=Int.eq_ofNat_of_zero_le h0;have hn:n<4294967296:=by omega
 clear h0 h1;go_enter Tryz.func175,Tryz.ntmps175
 go_wp2
 go_loop [0,10] (fun s0 i=>∃ k:Nat,k≤s.size∧i=.int .i64 k∧s0=.int .u32 (run (inv n) (s.data.toList.take k):Nat)) (fun _ i=>s.size-(intOf i).toNat)
 case atStart=>exact ⟨0,by omega,rfl,by rw [sH hn];rfl⟩
 case round =>
  obtain ⟨k,hk,rfl,rfl⟩:=hrel;have hr:=tz (s.data.toList.take k) (nG hn);by_cases hlt:k<s.size
  ·have hx:=GO hr s[k];have hl:=xlt hr (kc s[k]);go_wp2_with fail
   refine (CW _ _ (by omega) (by omega)).mono ?_;rintro e w' ⟨rfl,rfl⟩;rw [Int.toNat_natCast];go_wp2
   go_round
   case rel=>exact ⟨k+1,by omega,by go_num,by rw [EB s _ k hlt]⟩
   case measure=>simp [intOf];omega
  ·obtain rfl:k=s.size:=by omega
   go_wp2;go_ret;exact ⟨Dp (by rw [sH hr,EA];rfl),rfl⟩
theorem Ej (s:ByteArray) (w:World) (hs:s.size≤maxLen) :
 Calls Tryz.prog 148 #[.string s] w fun e w'=>e=.returned (.int .u32 (sum s.data.toList:Nat))∧w=w':=by
 go_enter Tryz.func148,Tryz.ntmps148
 go_wp2_with fail
 refine (Bv _ _ _ (by omega) (by omega) hs).mono ?_;rintro e w' ⟨rfl,rfl⟩;go_wp2;go_ret;exact ⟨rfl,rfl⟩
end
section
open Go.RowKit
def wy (w:World) (base:Nat) (l:List Tok) (e:Ending) (w':World):Prop :=
 ∃ v,e=.returned v∧bm w' base v l∧Below base w w'
theorem th (v:Value) (l:List Tok) (s:ByteArray) (base:Nat) (w:World) (hs:s.size≤140737488351232) (hb:base≤w.heap.size) (ho:bm w base v l) (hl:l.length≤999999) :
 Calls Tryz.prog 179 #[v,.string s] w (wy w base (l++ownT s.data.toList)):=by
 by_cases hz:s.data.toList=[]
 ·have h1:s.toList=[]:=by rw [toL];exact hz
  have h2:s.toList.isEmpty=true:=by rw [h1];rfl
  have HO:Hid (bm w base v (l++ownT s.data.toList)):=by
   have h:bm w base v (l++ownT s.data.toList):=by rw [hz,tg,List.append_nil];exact ho
   exact h
  clear ho hz;go_enter Tryz.func179,Tryz.ntmps179
  go_wp2;go_ret;exact ⟨_,rfl,HO.out,Below.refl _ _⟩
 ·have h2 : s.toList.isEmpty = false := by rw [toL]; cases h : s.data.toList with
                                                     | nil=>exact absurd h hz
                                                     | cons=>rfl
  have HO:=hid ho;have HT:Hid (ownT s.data.toList=[⟨s,0,0⟩]):=by
   have h:ownT s.data.toList=[⟨s,0,0⟩]:=by rw [tf hz]
   exact h
  clear ho hz;go_enter Tryz.func179,Tryz.ntmps179
  go_wp2_with fail
  refine (bP s _ hs).mono ?_;rintro r w1 ⟨rfl,hb1⟩;have HO1:=hid (HO.out.below hb1);have HB1:Hid (Below base w w1):=hb1.mono hb;have hbs:base≤w1.heap.size:=Nat.le_trans hb hb1.size;clear hb1;go_wp2_with (at_builtin;refine px rfl _ _ rfl base _ l rfl (HO1.out.alloc _) w1.heap.size 1 rfl ⟨s,0,0⟩ ?c1 ?c2 ?c3 ?_)
  case c1=>exact jw _ _ _ _
  case c2=>omega
  case c3=>simp;omega
  ·intro g cap w2 ho2 hg2;have HB2:Hid (Below base w w2):=(HB1.out.alloc hbs _).grown hg2 (by simp;omega) (fun g hg=>(HO1.out.lt g hg).1);have HO2:=hid ho2;clear ho2 hg2;go_wp2;go_ret;exact ⟨_,rfl,by rw [HT.out];exact HO2.out,HB2.out⟩
end
section
open Go.RowKit
def hasV (K:Int):Bool:=decide (K=1) || decide (K=4)
def hasN (K:Int):Bool:=decide (K=3) || decide (K=4)
def idOk (T R:Int):Bool:=decide (1≤T∧T≤1099511627776∧0≤R∧R≤200)
def ci (K N:Int):Bool:=if K=3 then decide (-1125899906842624≤N) && decide (N≤1125899906842624) else if K=4 then decide (0≤N) && decide (N≤1000) else true
def wriE (T R K:Int) (key val:ByteArray) (N:Int):Nat :=
 if K<1∨4<K then 1 else if idOk T R=false then 2 else if 40<key.size∨300<val.size then 4 else if (0<val.size∧hasV K=false)∨(N≠0∧hasN K=false) then 3 else if ci K N=false then 2 else 0
theorem Gx {T R K:Int} {key val:ByteArray} {N:Int} (h:K<1∨4<K):wriE T R K key val N=1:=if_pos h
theorem Gw {T R K:Int} {key val:ByteArray} {N:Int} (h:¬ (K<1∨4<K)) (h1:idOk T R=false):wriE T R K key val N=2:=by unfold wriE;rw [if_neg h,if_pos h1]
theorem Gz {T R K:Int} {key val:ByteArray} {N:Int} (h:¬ (K<1∨4<K)) (h1:idOk T R=true) (h2:40<key.size∨300<val.size):wriE T R K key val N=4:=by
 unfold wriE;rw [if_neg h,if_neg (by rw [h1];decide),if_pos h2]
theorem Gy {T R K:Int} {key val:ByteArray} {N:Int} (h:¬ (K<1∨4<K)) (h1:idOk T R=true) (h2:¬ (40<key.size∨300<val.size)) :
 wriE T R K key val N=if ((decide (0<val.size) && !hasV K) || (decide (N≠0) && !hasN K))=true then 3 else if ci K N=true then 0 else 2:=by
 unfold wriE;rw [if_neg h,if_neg (by rw [h1];decide),if_neg h2];cases hasV K <;> cases hasN K <;> cases ci K N <;> simp
theorem iJ {s:ByteArray} (h:¬ 0<s.size):s=⟨#[]⟩:=by
 cases s with
 | mk d => have : d.size = 0 := by have h2 : ¬ 0 < d.size := h; omega
           rw [Array.eq_empty_of_size_eq_zero this]
theorem jV {s:ByteArray} (h:0<s.size):(s.toList != [])=true:=by
 rw [ByteArray.toList_eq,bne_iff_ne];intro e;have:s.data.toList.length=0:=by rw [e];rfl
 have h2:s.data.toList.length=s.size:=Array.length_toList;omega
theorem fL {T R K:Int} {key val:ByteArray} {N:Int} (h:wriE T R K key val N=0) :
 ¬ (K<1∨4<K)∧idOk T R=true∧key.size≤40∧val.size≤300∧¬ ((0<val.size∧hasV K=false)∨(N≠0∧hasN K=false))∧ci K N=true:=by
 unfold wriE at h;split at h
 ·simp at h
 ·split at h
  ·simp at h
  ·split at h
   ·simp at h
   ·split at h
    ·simp at h
    ·split at h
     ·simp at h
     ·rename_i h1 h2 h3 h4 h5;exact ⟨h1,by simpa using h2,by omega,by omega,h4,by simpa using h5⟩
end
section
open Go.RowKit
def cmpF (x y:Int):Int:=if x<y then -1 else if y<x then 1 else 0
def orF (p q:Int):Int:=if p=0 then q else p
def cI (a b:Int×Int):Int:=orF (cmpF a.1 b.1) (cmpF a.2 b.2)
def wiF (x:Int×Int) (from_ have_:List Ent):Bool:=decide (ofF from_ x.2<x.1) && decide (x.1≤ofF have_ x.2)
theorem yv (x y:Int) (w:World):Calls Tryz.prog 42 #[.int .i64 x,.int .i64 y] w fun e w'=>e=.returned (.int .i64 (cmpF x y))∧w=w':=by
 have hn:∀ (z:Int) (w:World),Calls Tryz.prog 65 #[.int .i64 z] w fun e w'=>e=.returned (.bool false)∧w=w':=fun z w=>by
  go_enter Tryz.func65,Tryz.ntmps65
  go_wp2;go_ret;exact ⟨by first | rfl | simp,rfl⟩
 by_cases h1:x<y
 ·have HW:Hid (cmpF x y=-1):=hid (by unfold cmpF;rw [if_pos h1]);rw [HW.out];go_enter Tryz.func42,Tryz.ntmps42
  go_wp2_with (first | (go_at_call 65;refine (hn _ _).mono ?_;rintro e w' ⟨rfl,rfl⟩))
  go_ret;exact ⟨rfl,rfl⟩
 ·by_cases h2:y<x
  ·have HW:Hid (cmpF x y=1):=hid (by unfold cmpF;rw [if_neg h1,if_pos h2]);rw [HW.out];go_enter Tryz.func42,Tryz.ntmps42
   go_wp2_with (first | (go_at_call 65;refine (hn _ _).mono ?_;rintro e w' ⟨rfl,rfl⟩))
   go_ret;exact ⟨rfl,rfl⟩
  ·obtain rfl:x=y:=by omega
   have HW:Hid (cmpF x x=0):=hid (by unfold cmpF;rw [if_neg h1,if_neg h1]);rw [HW.out];clear h1 h2;go_enter Tryz.func42,Tryz.ntmps42
   go_wp2_with (first | (go_at_call 65;refine (hn _ _).mono ?_;rintro e w' ⟨rfl,rfl⟩))
   go_ret;exact ⟨rfl,rfl⟩
theorem qC (x y c:Int) (w:World) (h:cmpF x y=c):Calls Tryz.prog 42 #[.int .i64 x,.int .i64 y] w fun e w'=>e=.returned (.int .i64 c)∧w=w':=by
 subst h;exact yv x y w
theorem Cm (p q c:Int) (B:Nat) (w:World) (h0:w.cell? ⟨B,0,none⟩=some (.int .i64 p)) (h1:w.cell? ⟨B,1,none⟩=some (.int .i64 q)) (h:orF p q=c) :
 Calls Tryz.prog 41 #[.slice (some ⟨B,0,none⟩) 2 2] w fun e w'=>e=.returned (.int .i64 c)∧w=w':=by
 subst h;by_cases hp:p=0
 ·have HW:Hid (orF p q=q):=hid (by unfold orF;rw [if_pos hp]);rw [HW.out];subst hp;by_cases hq:q=0
  ·subst hq;go_enter Tryz.func41,Tryz.ntmps41
   go_wp2;refine wp_loop_rounds 3 ?_;rw [rounds_succ];go_wp2;rw [rounds_succ];go_wp2;rw [rounds_succ];go_wp2;go_ret;exact ⟨rfl,rfl⟩
  ·have bq:(q == 0)=false:=by simpa using hq
   have bq2:(q != 0)=true:=by simpa using hq
   go_enter Tryz.func41,Tryz.ntmps41
   go_wp2;refine wp_loop_rounds 2 ?_;rw [rounds_succ];go_wp2;rw [rounds_succ];go_wp2;go_ret;exact ⟨rfl,rfl⟩
 ·have HW:Hid (orF p q=p):=hid (by unfold orF;rw [if_neg hp]);rw [HW.out];have bq:(p == 0)=false:=by simpa using hp
  have bq2:(p != 0)=true:=by simpa using hp
  go_enter Tryz.func41,Tryz.ntmps41
  go_wp2;refine wp_loop_rounds 1 ?_;rw [rounds_succ];go_wp2;go_ret;exact ⟨rfl,rfl⟩
theorem uo (w:World) (o1 o2:Obj) (a b:Value) (t:TypeId):(((w.alloc o1).alloc o2).alloc (.cells #[a,b] t)).cell? ⟨w.heap.size+1+1,0,none⟩=some a∧(((w.alloc o1).alloc o2).alloc (.cells #[a,b] t)).cell? ⟨w.heap.size+1+1,1,none⟩=some b:=by
 have h:=heap_alloc_new ((w.alloc o1).alloc o2) (.cells #[a,b] t);rw [World.size_alloc,World.size_alloc] at h;exact ⟨cell_of_row _ _ 0 _ _ (0,0) h,cell_of_row _ _ 1 _ _ (0,0) h⟩
theorem zS (a b:Int×Int) (w:World):Calls Tryz.prog 18 #[.agg #[.int .i64 a.1,.int .i64 a.2],.agg #[.int .i64 b.1,.int .i64 b.2]] w fun e w'=>e=.returned (.int .i64 (cI a b))∧Below w.heap.size w w':=by
 obtain ⟨x1,x2⟩:=a;obtain ⟨y1,y2⟩:=b;simp only
 obtain ⟨c1,hc1⟩:∃ c,cmpF x1 y1=c:=⟨_,rfl⟩;obtain ⟨c2,hc2⟩:∃ c,cmpF x2 y2=c:=⟨_,rfl⟩;obtain ⟨c,hc⟩:∃ c,orF c1 c2=c:=⟨_,rfl⟩;have HW:Hid (cI (x1,x2) (y1,y2)=c):=hid (show cI (x1,x2) (y1,y2)=c by unfold cI;simp only;rw [hc1,hc2,hc]);have H1:=hid hc1;have H2:=hid hc2;have H3:=hid hc;clear hc1 hc2 hc;rw [HW.out];go_enter Tryz.func18,Tryz.ntmps18
 go_wp2;have k0:((w.alloc (.cells #[.int .i64 x1,.int .i64 x2] 36)).alloc (.cells #[.int .i64 y1,.int .i64 y2] 36)).cell? ⟨w.heap.size,0,none⟩=some (.int .i64 x1)∧((w.alloc (.cells #[.int .i64 x1,.int .i64 x2] 36)).alloc (.cells #[.int .i64 y1,.int .i64 y2] 36)).cell? ⟨w.heap.size,1,none⟩=some (.int .i64 x2)∧((w.alloc (.cells #[.int .i64 x1,.int .i64 x2] 36)).alloc (.cells #[.int .i64 y1,.int .i64 y2] 36)).cell? ⟨w.heap.size+1,0,none⟩=some (.int .i64 y1)∧((w.alloc (.cells #[.int .i64 x1,.int .i64 x2] 36)).alloc (.cells #[.int .i64 y1,.int .i64 y2] 36)).cell? ⟨w.heap.size+1,1,none⟩=some (.int .i64 y2):=by simp
 go_region_held3 (fun w'=>w'.cell? ⟨w.heap.size,0,none⟩=some (.int .i64 x1)∧w'.cell? ⟨w.heap.size,1,none⟩=some (.int .i64 x2)∧w'.cell? ⟨w.heap.size+1,0,none⟩=some (.int .i64 y1)∧w'.cell? ⟨w.heap.size+1,1,none⟩=some (.int .i64 y2)) (first | exact k0 | go_keep) (first | (go_at_call 42;((with_reducible refine (qC x1 y1 c1 _ H1.out).mono ?_);rintro r w' ⟨rfl,rfl⟩)) | (go_at_call 42;((with_reducible refine (qC x2 y2 c2 _ H2.out).mono ?_);rintro r w' ⟨rfl,rfl⟩)) | (go_at_call 41;((refine (Cm c1 c2 c _ _ (by simp;exact (uo _ _ _ _ _ _).1) (by simp;exact (uo _ _ _ _ _ _).2) H3.out).mono ?_);rintro r w' ⟨rfl,rfl⟩)))
 go_wp2;go_ret;refine ⟨rfl,?_⟩
 first
  | exact (((Below.refl _ _).alloc (Nat.le_refl _) _).alloc (by simp) _).drew.alloc (by simp;omega) _
  | exact ((((Below.refl _ _).alloc (Nat.le_refl _) _).alloc (by simp) _).alloc (by simp;omega) _).drew
theorem gc (x1 x2 y1 y2 c:Int) (w:World) (h:cI (x1,x2) (y1,y2)=c):Calls Tryz.prog 18 #[.agg #[.int .i64 x1,.int .i64 x2],.agg #[.int .i64 y1,.int .i64 y2]] w fun e w'=>e=.returned (.int .i64 c)∧Below w.heap.size w w':=by
 subst h;exact zS (x1,x2) (y1,y2) w
end
section
def sumT:List Tok→Nat
 | []=>0
 | t::r=>lenT t+sumT r
theorem EG (l:List Tok) (b:List UInt8):(b7 b l).length=b.length+sumT l:=by
 induction l generalizing b with
 | nil=>rfl
 | cons t r ih=>show (b7 (eN b t) r).length=_;rw [ih,tT,sumT];omega
def cost (l:List Tok):Nat:=(bu l).length
theorem yB (t:Tok) (r:List Tok):cost (t::r)=(putT t).length+cost r:=by unfold cost;rw [mj,List.length_append]
theorem yA (l m:List Tok):cost (l++m)=cost l+cost m:=by unfold cost;rw [vV,List.length_append]
theorem Do {t:Tok} (h:fine t) (h0:t.own.size=0):1≤(putT t).length∧(putT t).length≤3∧4≤lenT t:=by
 rcases h with ⟨h1,_,_⟩ | ⟨_,h1,h2,h3,h4⟩
 ·exact absurd h0 h1
 ·refine ⟨tq t,?_,by unfold lenT;omega⟩;rw [lq h0,List.length_append];have e1:=og 1 (2 * (t.size.toNat-4)+1) (by omega) (by omega);have e2:=og 2 (t.back.toNat-1) (by omega) (by omega);omega
end
