import Derived.Test.YtagoidpkbloflaaGreatDoorKlq
import Derived.Test.YtagoidpkbloflaaGreatDoorKl20
namespace Go.Proofs.YtagoidpkbloflaaGreatDoor
open Lib (hid)
set_option maxRecDepth 100000
set_option maxHeartbeats 8000000
section
open Go.RowKit
def evI (e:Nat):Value:=.int .i64 (e:Nat)
theorem cH (w:World) (cs zs:Array Value) (t:TypeId):((w.alloc (.cells cs t)).alloc (.cells zs t)).heap[w.heap.size]? = some (.cells cs t (0,0))∧((w.alloc (.cells cs t)).alloc (.cells zs t)).heap[w.heap.size+1]? = some (.cells zs t (0,0)) ∧
 w.heap.size+1<((w.alloc (.cells cs t)).alloc (.cells zs t)).heap.size∧Below w.heap.size w ((w.alloc (.cells cs t)).alloc (.cells zs t)):=by
 refine ⟨?_,?_,by simp,((Below.refl _ _).alloc (Db _) _).alloc (by simp) _⟩
 ·rw [Below.heap_alloc _ _ _ (by simp)];exact Dg _ _
 ·have h:=Dg (w.alloc (.cells cs t)) (.cells zs t);rw [DE] at h;exact h
theorem zO (T R K:Int) (key val:ByteArray) (N:Int) (s:ByteArray) (w:World) (hk:key.size≤140737488351232) (h1:K≠1) (h3:K≠3) (h4:K≠4) :
 Calls Tryz.prog 38 #[.agg #[.int .i64 T,.int .i64 R,.int .i64 K,.string key,.string val,.int .i64 N],.string s] w fun e w'=>(∃ r,e=.returned r∧eK evI T R K key s.data.toList r)∧Below w.heap.size w w':=by
 have b1:(K == 1)=false:=by simpa using h1
 have b3:(K == 3)=false:=by simpa using h3
 have b4:(K == 4)=false:=by simpa using h4
 have HN:Hid (getN K s.data.toList=(0,0,0)):=hid (show _=_ by unfold getN;rw [if_neg h3,if_neg h4]);have hV:hasV K=false:=by unfold hasV;rw [Dx h1,Dx h4];rfl
 have HV:Hid (getV K (s.data.toList.drop 0)=([],0,0)):=hid (show _=_ by unfold getV;rw [hV,if_neg (by decide)]);go_enter Tryz.func38,Tryz.ntmps38
 go_wp2_with fail
 refine (gw T R K key ⟨#[]⟩ 0 _ hk (Ds _)).mono ?_;rintro r w1 ⟨rfl,hb5⟩;have HRB:=hid (cH w #[.int .i64 T,.int .i64 R,.int .i64 K,.string key,.string ⟨#[]⟩,.int .i64 0] #[.int .i64 0,.int .i64 0,.int .i64 0,.string ⟨#[]⟩,.string ⟨#[]⟩,.int .i64 0] 78).1;have HRZ:=hid (cH w #[.int .i64 T,.int .i64 R,.int .i64 K,.string key,.string ⟨#[]⟩,.int .i64 0] #[.int .i64 0,.int .i64 0,.int .i64 0,.string ⟨#[]⟩,.string ⟨#[]⟩,.int .i64 0] 78).2.1;have HLW:=hid (cH w #[.int .i64 T,.int .i64 R,.int .i64 K,.string key,.string ⟨#[]⟩,.int .i64 0] #[.int .i64 0,.int .i64 0,.int .i64 0,.string ⟨#[]⟩,.string ⟨#[]⟩,.int .i64 0] 78).2.2.1;have HBW:=hid (cH w #[.int .i64 T,.int .i64 R,.int .i64 K,.string key,.string ⟨#[]⟩,.int .i64 0] #[.int .i64 0,.int .i64 0,.int .i64 0,.string ⟨#[]⟩,.string ⟨#[]⟩,.int .i64 0] 78).2.2.2;obtain ⟨E,hE⟩:∃ E,wriE T R K key ⟨#[]⟩ 0=E:=⟨_,rfl⟩;rw [hE];have rB6:=(hb5.block _ (Ed HLW.out)).trans HRB.out;have rZ6:=(hb5.block _ HLW.out).trans HRZ.out;have HB6:=hid (HBW.out.trans (hb5.mono HBW.out.size));have HRB6:=hid rB6;have HRZ6:=hid rZ6;have HE6:=hid hE;clear hb5 rB6 rZ6 hE;by_cases h0:E=0
 ·subst h0;have HI:=hid (cW (.int .i64 T) (.int .i64 R) (.int .i64 K) (.string key) (.string ⟨#[]⟩) (.int .i64 0));have HRZ9:=hid (bL HRZ6.out #[.int .i64 T,.int .i64 R,.int .i64 K,.string key,.string ⟨#[]⟩,.int .i64 0]);have HONE:=hid (cV T R K key ⟨#[]⟩ 0);have HSAME:=hid (di T R K key ⟨#[]⟩ 0);have HOUT:=hid (gX (ev:=evI) (R:=R) HN.out HV.out HE6.out);rw [show ((0:Nat):Int)=0 from rfl];go_wp2_with (first
   | (with_reducible refine wpList_load_row rfl _ _ rfl _ rfl _ _ _ _ HRB6.out Tryz.underlying78 rfl HI.out ?_)
   | (with_reducible refine DO rfl _ _ _ rfl _ _ rfl rfl _ _ HRZ6.out HI.out HSAME.out HONE.out ?_))
  obtain ⟨c0,c1,c2,c3,c4,c5⟩:=aI HRZ9.out;refine Dc (v:=.tuple #[.agg #[.int .i64 T,.int .i64 R,.int .i64 K,.string key,.string ⟨#[]⟩,.int .i64 0],.int .i64 0,.int .i64 0]) (by simp [results,Tryz.results38,go_sem,c0,c1,c2,c3,c4,c5]) rfl ?_;exact ⟨⟨_,rfl,HOUT.out⟩,cz HB6.out (Dq _) _⟩
 ·have HR:=hid (dz (ev:=evI) (T:=T) (R:=R) (key:=key) ((fu (T:=T) (R:=R) (key:=key) HN.out HV.out).trans HE6.out) h0);have hne:((E:Int) != 0)=true:=by simp;omega
  obtain ⟨c0,c1,c2,c3,c4,c5⟩:=aI HRZ6.out;obtain ⟨f0,f1,f2,f3,f4,f5⟩:=cd HRZ6.out;go_wp2;refine Dc (v:=.tuple #[bD,.int .i64 0,.int .i64 E]) (by simp [results,Tryz.results38,go_sem,bD,c0,c1,c2,c3,c4,c5]) rfl ?_;exact ⟨⟨_,rfl,HR.out⟩,ed HB6.out (Dq _) _ _ _ _ _ _⟩
theorem zP (T R:Int) (key val:ByteArray) (N:Int) (s:ByteArray) (w:World) (hk:key.size≤140737488351232) (hs:s.size≤140737488351232) :
 Calls Tryz.prog 38 #[.agg #[.int .i64 T,.int .i64 R,.int .i64 1,.string key,.string val,.int .i64 N],.string s] w fun e w'=>(∃ r,e=.returned r∧eK evI T R 1 key s.data.toList r)∧Below w.heap.size w w':=by
 have HN:Hid (getN 1 s.data.toList=(0,0,0)):=hid rfl;obtain ⟨v,j,e,hv⟩:∃ v j e,getV 1 (s.data.toList.drop 0)=(v,j,e):=⟨_,_,_,rfl⟩;have hg:getS s.data.toList=(v,j,e):=hv;have hle:=me 1 (s.data.toList.drop 0);rw [hv,E4,←ac] at hle;simp only at hle
 have HV:=hid hv;have HG:=hid hg;have HLE:=hid hle;clear hv hg hle;go_enter Tryz.func38,Tryz.ntmps38
 go_wp2_with fail
 refine (kp s _ hs).mono ?_;rintro r w1 ⟨rfl,rfl⟩;rw [HG.out];unfold dJ;by_cases he:e=0
 ·subst he;have d1:(0:Int)≤(j:Int):=by omega
  have d2:(j:Int)≤(s.size:Int):=by have:=HLE.out.2;omega
  rw [show ((0:Nat):Int)=0 from rfl];go_wp2;go_region
  obtain ⟨U,hU⟩:∃ U,s.extract j s.size=U:=⟨_,rfl⟩;have hus:U.size=s.size-j:=by rw [←hU,DJ];omega
  rw [hU];have HUS:=hid hus;have hub:U.size≤140737488351232:=by omega
  clear hU hus;go_wp2_with fail
  have hvl:(⟨v.toArray⟩:ByteArray).size≤140737488351232:=by rw [bm];have:=HLE.out.1;omega
  refine (gw T R 1 key ⟨v.toArray⟩ 0 _ hk hvl).mono ?_;rintro r w1 ⟨rfl,hb5⟩;have HRB:=hid (cH w #[.int .i64 T,.int .i64 R,.int .i64 1,.string key,.string ⟨v.toArray⟩,.int .i64 0] #[.int .i64 0,.int .i64 0,.int .i64 0,.string ⟨#[]⟩,.string ⟨#[]⟩,.int .i64 0] 78).1;have HRZ:=hid (cH w #[.int .i64 T,.int .i64 R,.int .i64 1,.string key,.string ⟨v.toArray⟩,.int .i64 0] #[.int .i64 0,.int .i64 0,.int .i64 0,.string ⟨#[]⟩,.string ⟨#[]⟩,.int .i64 0] 78).2.1;have HLW:=hid (cH w #[.int .i64 T,.int .i64 R,.int .i64 1,.string key,.string ⟨v.toArray⟩,.int .i64 0] #[.int .i64 0,.int .i64 0,.int .i64 0,.string ⟨#[]⟩,.string ⟨#[]⟩,.int .i64 0] 78).2.2.1;have HBW:=hid (cH w #[.int .i64 T,.int .i64 R,.int .i64 1,.string key,.string ⟨v.toArray⟩,.int .i64 0] #[.int .i64 0,.int .i64 0,.int .i64 0,.string ⟨#[]⟩,.string ⟨#[]⟩,.int .i64 0] 78).2.2.2.drew;obtain ⟨E,hE⟩:∃ E,wriE T R 1 key ⟨v.toArray⟩ 0=E:=⟨_,rfl⟩;rw [hE];have rB6:=(hb5.block _ (Ed HLW.out)).trans HRB.out;have rZ6:=(hb5.block _ HLW.out).trans HRZ.out;have HB6:=hid (HBW.out.trans (hb5.mono HBW.out.size));have HRB6:=hid rB6;have HRZ6:=hid rZ6;have HE6:=hid hE;clear hb5 rB6 rZ6 hE
  by_cases h0:E=0
  ·subst h0;have HI:=hid (cW (.int .i64 T) (.int .i64 R) (.int .i64 1) (.string key) (.string ⟨v.toArray⟩) (.int .i64 0));have HRZ9:=hid (bL HRZ6.out #[.int .i64 T,.int .i64 R,.int .i64 1,.string key,.string ⟨v.toArray⟩,.int .i64 0]);have HONE:=hid (cV T R 1 key ⟨v.toArray⟩ 0);have HSAME:=hid (di T R 1 key ⟨v.toArray⟩ 0);have HOUT:=hid (gX (ev:=evI) (R:=R) HN.out HV.out HE6.out);rw [show ((0:Nat):Int)=0 from rfl];go_wp2_with (first
    | (with_reducible refine wpList_load_row rfl _ _ rfl _ rfl _ _ _ _ HRB6.out Tryz.underlying78 rfl HI.out ?_)
    | (with_reducible refine DO rfl _ _ _ rfl _ _ rfl rfl _ _ HRZ6.out HI.out HSAME.out HONE.out ?_))
   have hsz:(s.size:Int)-(U.size:Int)=((0+j:Nat):Int):=by have h1:=HUS.out;have h2:=HLE.out.2;omega
   rw [hsz];obtain ⟨c0,c1,c2,c3,c4,c5⟩:=aI HRZ9.out;refine Dc (v:=.tuple #[.agg #[.int .i64 T,.int .i64 R,.int .i64 1,.string key,.string ⟨v.toArray⟩,.int .i64 0],.int .i64 ((0+j:Nat):Int),.int .i64 0]) (by simp [results,Tryz.results38,go_sem,c0,c1,c2,c3,c4,c5]) rfl ?_;exact ⟨⟨_,rfl,HOUT.out⟩,cz HB6.out (Dq _) _⟩
  ·have HR:=hid (dz (ev:=evI) (T:=T) (R:=R) (key:=key) ((fu (T:=T) (R:=R) (key:=key) HN.out HV.out).trans HE6.out) h0);have hne:((E:Int) != 0)=true:=by simp;omega
   obtain ⟨c0,c1,c2,c3,c4,c5⟩:=aI HRZ6.out;obtain ⟨f0,f1,f2,f3,f4,f5⟩:=cd HRZ6.out;go_wp2;refine Dc (v:=.tuple #[bD,.int .i64 0,.int .i64 E]) (by simp [results,Tryz.results38,go_sem,bD,c0,c1,c2,c3,c4,c5]) rfl ?_;exact ⟨⟨_,rfl,HR.out⟩,ed HB6.out (Dq _) _ _ _ _ _ _⟩
 ·have HR:=hid (dz (ev:=evI) (T:=T) (R:=R) (key:=key) (jA HN.out HV.out he) he);have hne:((e:Int) != 0)=true:=by simp;omega
  go_wp2;refine Dc (v:=.tuple #[bD,.int .i64 0,.int .i64 e]) (by simp [results,Tryz.results38,go_sem,bD]) rfl ?_;exact ⟨⟨_,rfl,HR.out⟩,((Below.refl _ _).alloc (Db _) _).alloc (by simp) _⟩
theorem zM (T R:Int) (key val:ByteArray) (N:Int) (s:ByteArray) (w:World) (hk:key.size≤140737488351232) (hs:s.size≤140737488351232) :
 Calls Tryz.prog 38 #[.agg #[.int .i64 T,.int .i64 R,.int .i64 3,.string key,.string val,.int .i64 N],.string s] w fun e w'=>(∃ r,e=.returned r∧eK evI T R 3 key s.data.toList r)∧Below w.heap.size w w':=by
 have hs2:s.size≤maxLen:=by unfold maxLen;omega
 obtain ⟨m,k,e,hg⟩:∃ m k e,getL s.data.toList=(m,k,e):=⟨_,_,_,rfl⟩;obtain ⟨n,hn⟩:∃ n,zagN m=n:=⟨_,rfl⟩;have hN:getN 3 s.data.toList=(n,k,e):=by unfold getN;rw [if_pos rfl,hg,←hn]
 have hle:=m4 3 s.data.toList;rw [hN,←ac] at hle;simp only at hle
 have hm:m≤18446744073709551615:=by
  rcases cu s.data.toList with ⟨e',h,_⟩ | ⟨m',k',h,h2,_⟩
  ·rw [hg] at h;simp only [Dz] at h;omega
  ·rw [hg] at h;simp only [Dz] at h;omega
 have HN:=hid hN;have HG:=hid hg;have HZ:=hid hn;have HLE:=hid hle;have HV:Hid (getV 3 (s.data.toList.drop k)=([],0,0)):=hid rfl;clear hN hg hle hn;go_enter Tryz.func38,Tryz.ntmps38
 go_wp2_with fail
 refine (nX s _ hs2).mono ?_;rintro r w1 ⟨rfl,rfl⟩;rw [HG.out];unfold numR;by_cases he:e=0
 ·subst he;have d1:(0:Int)≤(k:Int):=by omega
  have d2:(k:Int)≤(s.size:Int):=by have:=HLE.out.1;omega
  have m0:(0:Int)≤(m:Int):=by omega
  have m1:(m:Int)≤18446744073709551615:=by omega
  rw [show ((0:Nat):Int)=0 from rfl];go_wp2;go_region_held3 (fun w'=>True) (trivial) (first | (go_at_call 67;((with_reducible refine (D6 (m:Int) _ m0 m1).mono ?_);rintro r w' ⟨rfl,rfl⟩;rw [HZ.out])) | fail)
  obtain ⟨U,hU⟩:∃ U,s.extract k s.size=U:=⟨_,rfl⟩;have hus:U.size=s.size-k:=by rw [←hU,DJ];omega
  rw [hU];have HUS:=hid hus;have hub:U.size≤140737488351232:=by omega
  clear hU hus;go_wp2_with fail
  refine (gw T R 3 key ⟨#[]⟩ n _ hk (Ds _)).mono ?_;rintro r w1 ⟨rfl,hb5⟩;have HRB:=hid (cH w #[.int .i64 T,.int .i64 R,.int .i64 3,.string key,.string ⟨#[]⟩,.int .i64 n] #[.int .i64 0,.int .i64 0,.int .i64 0,.string ⟨#[]⟩,.string ⟨#[]⟩,.int .i64 0] 78).1;have HRZ:=hid (cH w #[.int .i64 T,.int .i64 R,.int .i64 3,.string key,.string ⟨#[]⟩,.int .i64 n] #[.int .i64 0,.int .i64 0,.int .i64 0,.string ⟨#[]⟩,.string ⟨#[]⟩,.int .i64 0] 78).2.1;have HLW:=hid (cH w #[.int .i64 T,.int .i64 R,.int .i64 3,.string key,.string ⟨#[]⟩,.int .i64 n] #[.int .i64 0,.int .i64 0,.int .i64 0,.string ⟨#[]⟩,.string ⟨#[]⟩,.int .i64 0] 78).2.2.1;have HBW:=hid (cH w #[.int .i64 T,.int .i64 R,.int .i64 3,.string key,.string ⟨#[]⟩,.int .i64 n] #[.int .i64 0,.int .i64 0,.int .i64 0,.string ⟨#[]⟩,.string ⟨#[]⟩,.int .i64 0] 78).2.2.2.drew;obtain ⟨E,hE⟩:∃ E,wriE T R 3 key ⟨#[]⟩ n=E:=⟨_,rfl⟩;rw [hE];have rB6:=(hb5.block _ (Ed HLW.out)).trans HRB.out;have rZ6:=(hb5.block _ HLW.out).trans HRZ.out;have HB6:=hid (HBW.out.trans (hb5.mono HBW.out.size));have HRB6:=hid rB6;have HRZ6:=hid rZ6;have HE6:=hid hE;clear hb5 rB6 rZ6 hE;by_cases h0:E=0
  ·subst h0;have HI:=hid (cW (.int .i64 T) (.int .i64 R) (.int .i64 3) (.string key) (.string ⟨#[]⟩) (.int .i64 n));have HRZ9:=hid (bL HRZ6.out #[.int .i64 T,.int .i64 R,.int .i64 3,.string key,.string ⟨#[]⟩,.int .i64 n]);have HONE:=hid (cV T R 3 key ⟨#[]⟩ n);have HSAME:=hid (di T R 3 key ⟨#[]⟩ n);have HOUT:=hid (gX (ev:=evI) (R:=R) HN.out HV.out HE6.out);rw [show ((0:Nat):Int)=0 from rfl];go_wp2_with (first
    | (with_reducible refine wpList_load_row rfl _ _ rfl _ rfl _ _ _ _ HRB6.out Tryz.underlying78 rfl HI.out ?_)
    | (with_reducible refine DO rfl _ _ _ rfl _ _ rfl rfl _ _ HRZ6.out HI.out HSAME.out HONE.out ?_))
   have hsz:(s.size:Int)-(U.size:Int)=((k+0:Nat):Int):=by have h1:=HUS.out;have h2:=HLE.out.1;omega
   rw [hsz];obtain ⟨c0,c1,c2,c3,c4,c5⟩:=aI HRZ9.out;refine Dc (v:=.tuple #[.agg #[.int .i64 T,.int .i64 R,.int .i64 3,.string key,.string ⟨#[]⟩,.int .i64 n],.int .i64 ((k+0:Nat):Int),.int .i64 0]) (by simp [results,Tryz.results38,go_sem,c0,c1,c2,c3,c4,c5]) rfl ?_;exact ⟨⟨_,rfl,HOUT.out⟩,cz HB6.out (Dq _) _⟩
  ·have HR:=hid (dz (ev:=evI) (T:=T) (R:=R) (key:=key) ((fu (T:=T) (R:=R) (key:=key) HN.out HV.out).trans HE6.out) h0);have hne:((E:Int) != 0)=true:=by simp;omega
   obtain ⟨c0,c1,c2,c3,c4,c5⟩:=aI HRZ6.out;obtain ⟨f0,f1,f2,f3,f4,f5⟩:=cd HRZ6.out;go_wp2;refine Dc (v:=.tuple #[bD,.int .i64 0,.int .i64 E]) (by simp [results,Tryz.results38,go_sem,bD,c0,c1,c2,c3,c4,c5]) rfl ?_;exact ⟨⟨_,rfl,HR.out⟩,ed HB6.out (Dq _) _ _ _ _ _ _⟩
 ·have HR:=hid (dz (ev:=evI) (T:=T) (R:=R) (key:=key) (jz HN.out he) he);have hne:((e:Int) != 0)=true:=by simp;omega
  go_wp2;refine Dc (v:=.tuple #[bD,.int .i64 0,.int .i64 e]) (by simp [results,Tryz.results38,go_sem,bD]) rfl ?_;exact ⟨⟨_,rfl,HR.out⟩,((Below.refl _ _).alloc (Db _) _).alloc (by simp) _⟩
theorem zN (T R:Int) (key val:ByteArray) (N:Int) (s:ByteArray) (w:World) (hk:key.size≤140737488351232) (hs:s.size≤140737488351232) :
 Calls Tryz.prog 38 #[.agg #[.int .i64 T,.int .i64 R,.int .i64 4,.string key,.string val,.int .i64 N],.string s] w fun e w'=>(∃ r,e=.returned r∧eK evI T R 4 key s.data.toList r)∧Below w.heap.size w w':=by
 have hs2:s.size≤maxLen:=by unfold maxLen;omega
 obtain ⟨m,k,e,hg⟩:∃ m k e,intL s.data.toList 1000=(m,k,e):=⟨_,_,_,rfl⟩;have hN:getN 4 s.data.toList=((m:Int),k,e):=by unfold getN;rw [if_neg (by decide),if_pos rfl,hg]
 have hle:=m4 4 s.data.toList;rw [hN,←ac] at hle;simp only at hle
 have HN:=hid hN;have HG:=hid hg;have HLE:=hid hle;obtain ⟨n,hn⟩:∃ n:Int,(m:Int)=n:=⟨_,rfl⟩;rw [hn] at HN;clear hN hg hle;go_enter Tryz.func38,Tryz.ntmps38
 go_wp2_with fail
 refine (iH s 1000 _ hs2 (by decide) (by decide)).mono ?_;rintro r w1 ⟨rfl,rfl⟩;rw [HG.out];unfold intR;simp only
 rw [hn];clear hn;by_cases he:e=0
 ·subst he;obtain ⟨v,j,e,hv⟩:∃ v j e,getV 4 (s.data.toList.drop k)=(v,j,e):=⟨_,_,_,rfl⟩;have hvl:=me 4 (s.data.toList.drop k);rw [hv,Dj,←ac] at hvl;simp only at hvl
  have HVL:=hid hvl;have d1:(0:Int)≤(k:Int):=by omega
  have d2:(k:Int)≤(s.size:Int):=by have:=HLE.out.1;omega
  rw [show ((0:Nat):Int)=0 from rfl];go_wp2;go_region
  obtain ⟨U,hU⟩:∃ U,s.extract k s.size=U:=⟨_,rfl⟩;have hus:U.size=s.size-k:=by rw [←hU,DJ];omega
  have hud:U.data.toList=s.data.toList.drop k:=by rw [←hU,cE,DL (by rw [←ac];exact Db _)]
  rw [hU];have HUS:=hid hus;have hub:U.size≤140737488351232:=by omega
  have HG2:Hid (getS U.data.toList=(v,j,e)):=hid (by rw [hud];exact hv);have HV:=hid hv;clear hU hus hud hv hvl;go_wp2_with fail
  refine (kp U _ hub).mono ?_;rintro r w1 ⟨rfl,rfl⟩;rw [HG2.out];unfold dJ;by_cases he:e=0
  ·subst he;have d3:(0:Int)≤(j:Int):=by omega
   have d4:(j:Int)≤(U.size:Int):=by have:=HVL.out.2;have:=HUS.out;omega
   rw [show ((0:Nat):Int)=0 from rfl];go_wp2;go_region
   obtain ⟨Y,hY⟩:∃ Y,U.extract j U.size=Y:=⟨_,rfl⟩;have hys:Y.size=U.size-j:=by rw [←hY,DJ];omega
   rw [hY];have HYS:=hid hys;have hyb:Y.size≤140737488351232:=by omega
   clear hY hys;go_wp2_with fail
   have hvl:(⟨v.toArray⟩:ByteArray).size≤140737488351232:=by rw [bm];have:=HVL.out.1;omega
   refine (gw T R 4 key ⟨v.toArray⟩ n _ hk hvl).mono ?_;rintro r w1 ⟨rfl,hb5⟩;have HRB:=hid (cH w #[.int .i64 T,.int .i64 R,.int .i64 4,.string key,.string ⟨v.toArray⟩,.int .i64 n] #[.int .i64 0,.int .i64 0,.int .i64 0,.string ⟨#[]⟩,.string ⟨#[]⟩,.int .i64 0] 78).1;have HRZ:=hid (cH w #[.int .i64 T,.int .i64 R,.int .i64 4,.string key,.string ⟨v.toArray⟩,.int .i64 n] #[.int .i64 0,.int .i64 0,.int .i64 0,.string ⟨#[]⟩,.string ⟨#[]⟩,.int .i64 0] 78).2.1;have HLW:=hid (cH w #[.int .i64 T,.int .i64 R,.int .i64 4,.string key,.string ⟨v.toArray⟩,.int .i64 n] #[.int .i64 0,.int .i64 0,.int .i64 0,.string ⟨#[]⟩,.string ⟨#[]⟩,.int .i64 0] 78).2.2.1;have HBW:=hid (cH w #[.int .i64 T,.int .i64 R,.int .i64 4,.string key,.string ⟨v.toArray⟩,.int .i64 n] #[.int .i64 0,.int .i64 0,.int .i64 0,.string ⟨#[]⟩,.string ⟨#[]⟩,.int .i64 0] 78).2.2.2.drew.drew;obtain ⟨E,hE⟩:∃ E,wriE T R 4 key ⟨v.toArray⟩ n=E:=⟨_,rfl⟩;rw [hE];have rB6:=(hb5.block _ (Ed HLW.out)).trans HRB.out;have rZ6:=(hb5.block _ HLW.out).trans HRZ.out;have HB6:=hid (HBW.out.trans (hb5.mono HBW.out.size));have HRB6:=hid rB6;have HRZ6:=hid rZ6;have HE6:=hid hE
   clear hb5 rB6 rZ6 hE;by_cases h0:E=0
   ·subst h0;have HI:=hid (cW (.int .i64 T) (.int .i64 R) (.int .i64 4) (.string key) (.string ⟨v.toArray⟩) (.int .i64 n));have HRZ9:=hid (bL HRZ6.out #[.int .i64 T,.int .i64 R,.int .i64 4,.string key,.string ⟨v.toArray⟩,.int .i64 n]);have HONE:=hid (cV T R 4 key ⟨v.toArray⟩ n);have HSAME:=hid (di T R 4 key ⟨v.toArray⟩ n);have HOUT:=hid (gX (ev:=evI) (R:=R) HN.out HV.out HE6.out);rw [show ((0:Nat):Int)=0 from rfl];go_wp2_with (first
     | (with_reducible refine wpList_load_row rfl _ _ rfl _ rfl _ _ _ _ HRB6.out Tryz.underlying78 rfl HI.out ?_)
     | (with_reducible refine DO rfl _ _ _ rfl _ _ rfl rfl _ _ HRZ6.out HI.out HSAME.out HONE.out ?_))
    have hsz:(s.size:Int)-(Y.size:Int)=((k+j:Nat):Int):=by have h1:=HUS.out;have h2:=HLE.out.1;have h3:=HYS.out;have h4:=HVL.out.2;omega
    rw [hsz];obtain ⟨c0,c1,c2,c3,c4,c5⟩:=aI HRZ9.out;refine Dc (v:=.tuple #[.agg #[.int .i64 T,.int .i64 R,.int .i64 4,.string key,.string ⟨v.toArray⟩,.int .i64 n],.int .i64 ((k+j:Nat):Int),.int .i64 0]) (by simp [results,Tryz.results38,go_sem,c0,c1,c2,c3,c4,c5]) rfl ?_;exact ⟨⟨_,rfl,HOUT.out⟩,cz HB6.out (Dq _) _⟩
   ·have HR:=hid (dz (ev:=evI) (T:=T) (R:=R) (key:=key) ((fu (T:=T) (R:=R) (key:=key) HN.out HV.out).trans HE6.out) h0);have hne:((E:Int) != 0)=true:=by simp;omega
    obtain ⟨c0,c1,c2,c3,c4,c5⟩:=aI HRZ6.out;obtain ⟨f0,f1,f2,f3,f4,f5⟩:=cd HRZ6.out;go_wp2;refine Dc (v:=.tuple #[bD,.int .i64 0,.int .i64 E]) (by simp [results,Tryz.results38,go_sem,bD,c0,c1,c2,c3,c4,c5]) rfl ?_;exact ⟨⟨_,rfl,HR.out⟩,ed HB6.out (Dq _) _ _ _ _ _ _⟩
  ·have HR:=hid (dz (ev:=evI) (T:=T) (R:=R) (key:=key) (jA HN.out HV.out he) he);have hne:((e:Int) != 0)=true:=by simp;omega
   go_wp2;refine Dc (v:=.tuple #[bD,.int .i64 0,.int .i64 e]) (by simp [results,Tryz.results38,go_sem,bD]) rfl ?_;exact ⟨⟨_,rfl,HR.out⟩,(((Below.refl _ _).alloc (Db _) _).alloc (by simp) _).drew⟩
 ·have HR:=hid (dz (ev:=evI) (T:=T) (R:=R) (key:=key) (jz HN.out he) he);have hne:((e:Int) != 0)=true:=by simp;omega
  go_wp2;refine Dc (v:=.tuple #[bD,.int .i64 0,.int .i64 e]) (by simp [results,Tryz.results38,go_sem,bD]) rfl ?_;exact ⟨⟨_,rfl,HR.out⟩,((Below.refl _ _).alloc (Db _) _).alloc (by simp) _⟩
theorem qT (T R K:Int) (key val:ByteArray) (N:Int) (s:ByteArray) (w:World) (hk:key.size≤140737488351232) (hs:s.size≤140737488351232) :
 Calls Tryz.prog 38 #[.agg #[.int .i64 T,.int .i64 R,.int .i64 K,.string key,.string val,.int .i64 N],.string s] w fun e w'=>(∃ r,e=.returned r∧eK evI T R K key s.data.toList r)∧Below w.heap.size w w':=by
 by_cases h1:K=1
 ·subst h1;exact zP T R key val N s w hk hs
 ·by_cases h3:K=3
  ·subst h3;exact zM T R key val N s w hk hs
  ·by_cases h4:K=4
   ·subst h4;exact zN T R key val N s w hk hs
   ·exact zO T R K key val N s w hk h1 h3 h4
end
section
open Go.RowKit
theorem lb (s:List UInt8):(∃ e,aj s=(e,0,[])∧e≠0)∨∃ n l,aj s=(0,n,l):=by
 rcases ar s 16 with ⟨e,hi,he,_⟩ | ⟨R,j,hi,_⟩
 ·exact .inl ⟨e,lc hi he,he⟩
 ·match hr:rdA R (s.drop j) j 0 [] with
  | .inl e =>
   refine .inl ⟨e,fS hi hr,?_⟩;have:∀ (k:Nat) (s:List UInt8) (used:Nat) (least:Int) (acc:List Ent),rdA k s used least acc=.inl e→e≠0:=by
    intro k
    induction k with
    | zero=>intro s used least acc h;cases h
    | succ k ih =>
     intro s used least acc h
     match hg:getR s 0 least [] with
     | .inl e'=>rw [fd hg] at h;injection h with h;subst h;exact py hg
     | .inr (run,j)=>rw [gl hg] at h;exact ih _ _ _ _ h
   exact this _ _ _ _ _ hr
  | .inr (l,n) =>
   by_cases h0:(au l).1=0
   ·exact .inr ⟨n,l,ld hi hr h0⟩
   ·exact .inl ⟨_,lf hi hr h0,h0⟩
end
section
open Go.RowKit
def Sc (w:World) (S:Nat) (s:ByteArray) (a:Nat):Prop:=w.heap[S]? = some (.cells #[.string s,.int .i64 (a:Int)] 68 (0,0))
theorem Sc.cells {w:World} {S:Nat} {s:ByteArray} {a:Nat} (h:Sc w S s a):w.cell? ⟨S,0,none⟩=some (.string s)∧w.cell? ⟨S,1,none⟩=some (.int .i64 (a:Int))∧w.frozen? ⟨S,1,none⟩=false∧S<w.heap.size:=by
 refine ⟨Dd _ _ 0 _ _ (0,0) h,Dd _ _ 1 _ _ (0,0) h,Lib.frozen_of_heap h 1,?_⟩;exact (DF.1 h).1
theorem Sc.kept {w w':World} {S:Nat} {s:ByteArray} {a:Nat} {row:Option Nat} (h:Sc w S s a) (hg:w.grownBy w' row) (hne:row≠some S):Sc w' S s a:=(hg.block S h.cells.2.2.2 (fun e=>hne e.symm)).trans h
theorem Sc.moved {w:World} {S:Nat} {s:ByteArray} {a b:Nat} (h:Sc w S s a):Sc (w.setCell ⟨S,1,none⟩ (.int .i64 (b:Int))) S s b:=by
 unfold Sc at h ⊢;simp [World.setCell,Dw,h]
theorem dn (w:World) (n:Nat) (row:Option Nat):w.grownBy (w.drewN n) row:=⟨rfl,rfl,rfl,Db _,fun _ _ _=>rfl⟩
theorem wv {w w1:World} {S:Nat} (h:w.grownBy w1 (some S)) (v:Value):w.grownBy (w1.setCell ⟨S,1,none⟩ v) (some S) :=
 ⟨h.os,h.tape,h.output,by simpa using h.size,fun k hk hne=>by
  have hk2:S≠k:=fun e=>hne (by rw [e])
  simp only [World.setCell,Dw,if_neg hk2]
  exact h.block k hk hne⟩
theorem mV (s:ByteArray) (most:Int) (V:Value) (w:World) (m:Nat) (hs:s.size≤maxLen) (h0 : -9223372036854775808≤most) (h1:most≤9223372036854775807) (hV:intR (intL s.data.toList most)=V) :
 Calls Tryz.prog 29 #[.string s,.int .i64 most] (w.drewN m) fun r w'=>r=.returned V∧∃ q,w'=w.drewN q :=
 (iH s most (w.drewN m) hs h0 h1).mono fun _ _ ⟨h2,h3⟩=>⟨by rw [h2,hV],m,h3.symm⟩
theorem bo (S:Nat) (s:ByteArray) (a n k:Nat) (most:Int) (w:World) (h:Sc w S s a) (hs:s.size≤1000000) (ha:a≤s.size) (hm0:0≤most) (hm:most≤1099511627776) (hg:intL (s.data.toList.drop a) most=(n,k,0)) (hk:k≤10) :
 Calls Tryz.prog 35 #[.pointer (some ⟨S,0,none⟩),.int .i64 most] w fun e w'=>e=.returned (.int .i64 (n:Int))∧Sc w' S s (a+k)∧w.grownBy w' (some S):=by
 obtain ⟨c0,c1,z1,hS⟩:=h.cells;have H:=hid h;have HM:Hid ((s.extract a s.size).size≤maxLen):=hid (show (s.extract a s.size).size≤maxLen by rw [DJ];unfold maxLen;omega);have HGL:Hid (intR (intL (s.extract a s.size).data.toList most)=.tuple #[.int .i64 (n:Int),.int .i64 (k:Int),.int .i64 0]):=hid (show intR (intL (s.extract a s.size).data.toList most)=.tuple #[.int .i64 (n:Int),.int .i64 (k:Int),.int .i64 0] by rw [aS,hg];rfl);have d3:(0:Int)≤(a:Int):=by omega
 have d4:(a:Int)≤(s.size:Int):=by omega
 have kw:IntKind.i64.wrap ((a:Int)+(k:Int))=(a:Int)+(k:Int):=Dh _ (by omega);clear h hg;go_enter Tryz.func35,Tryz.ntmps35
 go_wp2
 go_quiet ((go_at_call 29;with_reducible exact mV (s.extract a s.size) most _ _ _ HM.out (by omega) (by omega) HGL.out))
 go_wp2;go_ret;have e:(a:Int)+(k:Int)=((a+k:Nat):Int):=by simp
 rw [e];refine ⟨rfl,Sc.moved (H.out.kept (dn w _ none) (by simp)),?_⟩;exact wv (dn w _ _) _
theorem ck (S:Nat) (s:ByteArray) (a x:Nat) (most:Int) (w:World) (h:Sc w S s a) (hs:s.size≤1000000) (ha:a≤s.size) (hm0:0≤most) (hm:most≤1099511627776) (hg:intL (s.data.toList.drop a) most=(0,0,x)) (hx:x≠0) :
 Calls Tryz.prog 35 #[.pointer (some ⟨S,0,none⟩),.int .i64 most] w fun e w'=>e=.panicked [{ v:=.iface 119 (.agg #[.int .i64 (x:Int),.int .i64 (a:Int)]),recovered:=false }]∧w.grownBy w' (some S):=by
 obtain ⟨c0,c1,z1,hS⟩:=h.cells;have H:=hid h;have HM:Hid ((s.extract a s.size).size≤maxLen):=hid (show (s.extract a s.size).size≤maxLen by rw [DJ];unfold maxLen;omega);have HGL:Hid (intR (intL (s.extract a s.size).data.toList most)=.tuple #[.int .i64 0,.int .i64 0,.int .i64 (x:Int)]):=hid (show intR (intL (s.extract a s.size).data.toList most)=.tuple #[.int .i64 0,.int .i64 0,.int .i64 (x:Int)] by rw [aS,hg];rfl);have d3:(0:Int)≤(a:Int):=by omega
 have d4:(a:Int)≤(s.size:Int):=by omega
 have hne:((x:Int) != 0)=true:=by simp;omega
 clear h hg hx;go_enter Tryz.func35,Tryz.ntmps35
 go_wp2
 go_quiet ((go_at_call 29;with_reducible exact mV (s.extract a s.size) most _ _ _ HM.out (by omega) (by omega) HGL.out))
 go_wp2_with fail
 refine (bi x (a:Int) _).mono ?_;rintro r w' ⟨rfl,rfl⟩
 first
  | exact ⟨rfl,rfl,dn w _ _⟩
  | (show bodyPost _ _ _ _ _ _;exact ⟨rfl,rfl,dn w _ _⟩)
  | exact (show (_∧_∧_) from ⟨rfl,rfl,dn w _ _⟩)
  | (refine Dp rfl (Dp rfl ?_);exact dn w _ _)
  | (refine Dp rfl ?_;exact dn w _ _)
theorem aO {w w1 w2:World} {S:Nat} {row:Option Nat} (h:w.grownBy w1 (some S)) (h2:w1.grownBy w2 row) (hr:∀ k,row=some k→k=S∨w.heap.size≤k):w.grownBy w2 (some S):=by
 refine ⟨h2.os.trans h.os,h2.tape.trans h.tape,h2.output.trans h.output,Dl h.size h2.size,fun k hk hne=>?_⟩;rw [h2.block k (Dv hk h.size) (fun e=>by
  rcases hr k e.symm with rfl | h
  ·exact hne rfl
  ·omega)]
 exact h.block k hk hne
end
section
open Go.RowKit
theorem xm {q x:Wr} (h:late q x):q.time≤x.time:=by
 unfold late cI orF cmpF wid at h;simp only at h
 split at h <;> split at h <;> simp_all <;> omega
theorem dg {x:Wr} (h:wE x=0):1≤x.kind∧x.kind≤4∧1≤x.time∧x.time≤1099511627776∧0≤x.rep∧x.rep≤200∧x.key.size≤40∧x.value.size≤300∧(dZ x).length≤320∧WrOk x:=by
 obtain ⟨h1,h2,h3,h4,h5,h6⟩:=j7 h;unfold idOk at h2;have h2:=of_decide_eq_true h2;have hn:=qh h6;have hs:=n4 h4;have hv:(valB x.kind x.value).size≤310:=by unfold valB;split <;> first | exact hs | exact Ds _
 have ht:(dZ x).length≤320:=by unfold dZ;rw [←ac,tF];omega
 have hN : -9223372036854775808≤x.n∧x.n≤9223372036854775807:=by
  unfold aV at h6;by_cases k3:x.kind=3
  ·rw [if_pos k3] at h6;simp only [EL,Eo] at h6;omega
  ·rw [if_neg k3] at h6;by_cases k4:x.kind=4
   ·rw [if_pos k4] at h6;simp only [EL,Eo] at h6;omega
   ·have : x.n = 0 := by
     by_cases hN:x.n=0
     ·exact hN
     ·exact absurd (.inr ⟨hN,by unfold hasN;rw [Dx k3,Dx k4];rfl⟩) h5
    omega
 exact ⟨by omega,by omega,h2.1,h2.2.1,h2.2.2.1,h2.2.2.2,h3,h4,ht,hN.1,hN.2,by omega,by omega⟩
theorem yU {h:List Ent} {r:Int} {e:Ent} (he:e∈h) (hr:e.rep=r):aW h r<h.length:=List.findIdx_lt_length_of_exists ⟨e,he,by simpa using hr⟩
def dq (h:List Ent) (T:List ByteArray):Int→List Wr→List Nat→Prop
 | _,[],N=>N=[]
 | _,_::_,[]=>False
 | ahead,x::r,n::N=>(wE x=0∧ahead≤x.time∧aW h x.rep<h.length∧T[n]? = some x.key)∧dq h T x.time r N
theorem y8 (h:List Ent) (l:List Wr):∀ (T0:List ByteArray) (ahead:Int),(∀ x∈l,wE x=0∧ahead≤x.time∧aW h x.rep<h.length)→l.Pairwise late→dq h (tabK T0 (ay l)) ahead l (atK T0 (ay l)):=by
 induction l with
 | nil=>intro T0 ahead _ _;rfl
 | cons x r ih =>
  intro T0 ahead hx hp;rw [List.pairwise_cons] at hp;obtain ⟨h1,h2,h3⟩:=hx x EO;refine ⟨⟨h1,h2,h3,?_⟩,ih (addK T0 x.key) x.time (fun y hy=>⟨(hx y (Eu _ hy)).1,xm (hp.1 y hy),(hx y (Eu _ hy)).2.2⟩) hp.2⟩;have hpre:addK T0 x.key <+: tabK T0 (ay (x::r)):=B6 (ay r) (addK T0 x.key);have hat:(addK T0 x.key)[idxB T0 x.key]? = some x.key:=by
   by_cases hm:x.key∈T0
   ·rw [je hm];exact jJ hm
   ·rw [fW hm,ia hm];simp
  obtain ⟨t,ht⟩:=hpre;rw [←ht,EQ (Do.1 hat).1];exact hat
theorem qZ {f h:List Ent} {l:List Wr} (hr:ff f h l):dq h (tabK [] (ay l)) 0 l (atK [] (ay l)):=by
 rw [iG] at hr;obtain ⟨⟨g1,g2,g3⟩,g4,g5,g6⟩:=hr;refine y8 h l [] 0 (fun x hx=>?_) g6;obtain ⟨h1,h2⟩:=g5 x hx;have hf:=dg h1;refine ⟨h1,by omega,?_⟩;unfold wiF wid at h2;simp only [EL,Eo] at h2
 obtain ⟨e,he,h3,_⟩:=xP (l:=h) (x:=x.rep) (by omega);exact yU he h3
theorem y7 {h:List Ent} {T:List ByteArray} (l:List Wr):∀ (ahead:Int) (N:List Nat),dq h T ahead l N→N.length=l.length:=by
 induction l with
 | nil=>intro ahead N hN;have hN:N=[]:=hN;rw [hN];rfl
 | cons x r ih =>
  intro ahead N hN;cases N with
  | nil=>exact absurd hN id
  | cons n N=>rw [DM,DM,ih _ _ hN.2]
theorem ye {h:List Ent} {ahead:Int} {x:Wr} {n:Nat} (hw:wE x=0) (hp:aW h x.rep≤1000) (h0:0≤ahead) (hn:n≤1000):(oneB h ahead x n).length≤351:=by
 have hf:=dg hw;have h1:=aK (n:=(x.time-ahead).toNat) (by omega);have h2:=aK (n:=aW h x.rep) (by omega);have h3:=aK (n:=n) (by omega);unfold oneB;simp only [Df,DM,List.length_nil]
 omega
theorem A7 {h:List Ent} {T:List ByteArray} (hh:h.length≤1000) (hT:T.length≤1000) (l:List Wr):∀ (ahead:Int) (N:List Nat),0≤ahead→dq h T ahead l N→(rowB h ahead l N).length≤l.length * 351:=by
 induction l with
 | nil=>intro ahead N _ _;simp [rowB]
 | cons x r ih =>
  intro ahead N h0 hN;cases N with
  | nil=>exact absurd hN id
  | cons n N =>
   obtain ⟨⟨h1,h2,h3,h4⟩,h5⟩:=hN;have hf:=dg h1;have hn:n<T.length:=(Do.1 h4).1;have:=ye (n:=n) h1 (show aW h x.rep≤1000 by omega) h0 (by omega);have:=ih x.time N (by omega) h5;rw [r7,Df,DM];omega
theorem Br {T:List ByteArray} (h:∀ k∈T,k.size≤40):(bC T).length≤T.length * 50:=by
 induction T with
 | nil=>simp [bC]
 | cons k T ih =>
  have h1:=h k EO;have h2:=ih fun y hy=>h y (Eu _ hy)
  have h3:=aK (n:=k.data.toList.length) (by rw [←ac];omega);rw [nd,Df,DM];unfold cT;rw [Df,←ac];rw [←ac] at h3;omega
theorem B8 {l:List Wr} {k:ByteArray} (hk:k∈tabK [] (ay l)):∃ x∈l,x.key=k:=by
 rcases B7 _ _ _ hk with h | h
 ·cases h
 ·exact List.mem_map.1 h
theorem rU {f h:List Ent} {l:List Wr} (hr:ff f h l):(∀ k∈tabK [] (ay l),k.size≤40)∧(tabK [] (ay l)).length≤60:=by
 rw [iG] at hr;refine ⟨fun k hk=>?_,?_⟩
 ·obtain ⟨x,hx,rfl⟩:=B8 hk;have:=dg (hr.2.2.1 x hx).1;omega
 ·have:=B4 (ay l) [];unfold ay at this ⊢;rw [E9] at this;have:=hr.2.1;simp at *
  omega
theorem Cn {l:List Ent} (h:cG l):cj l=aC l:=by unfold cj;rw [if_pos ((ec l).2 h)]
theorem cC {s:List UInt8} {a k:Nat} {p:List UInt8} (hp:p=(s.drop a).take k):s.drop a=p++s.drop (a+k):=by
 rw [hp,←Dy];exact (EE _ _).symm
theorem mu (c:UInt8) (r:List UInt8):aq (c::r)=if c.toNat<1∨4<c.toNat then (0,0,1) else (c.toNat,1,0):=rfl
end
section
open Go.RowKit
theorem oT (w:World):Calls Tryz.prog 107 #[.nilIface] w fun e w'=>e=.returned (.tuple #[])∧w=w':=by
 go_enter Tryz.func107,Tryz.ntmps107
 go_wp2
 go_end0
 exact ⟨rfl,rfl⟩
theorem jl (t:TypeId) (v:Value) (w:World):Calls Tryz.prog 107 #[.iface t v] w fun e w'=>e=.panicked [{ v:=.iface t v,recovered:=false }]∧w'=w:=by
 go_enter Tryz.func107,Tryz.ntmps107
 go_wp2;exact ⟨rfl,rfl,rfl⟩
theorem ln (B b:Nat) (l:List UInt8) (s:ByteArray) (w:World) (h:bI w B b l) (hl:l.length≤1000000) (hs:s.size≤1000000) (hBw:B≤w.heap.size) :
 Calls Tryz.prog 129 #[.pointer (some ⟨b,0,none⟩),.string s,.nilIface] w fun e w'=>e=.returned (.tuple #[])∧bI w' B b (l++s.data.toList)∧Below B w w'∧NonB b w w':=by
 have H:=hid h;clear h;go_enter Tryz.func129,Tryz.ntmps129
 go_wp2_with fail
 refine (oT _).mono ?_;rintro r w1 ⟨rfl,rfl⟩;go_wp2_with fail
 refine (sF B b l s _ H.out (by omega) hBw).mono ?_;rintro r w2 ⟨rfl,hbl,hb2,hn2⟩;have H2:=hid hbl;have HB2:=hid hb2;have HN2:=hid hn2;clear hbl hb2 hn2;go_wp2
 go_end0
 exact ⟨rfl,H2.out,HB2.out,HN2.out⟩
theorem iY (B b n:Nat) (l:List UInt8) (w:World) (h:bI w B b l) (hn:n≤1099511627776) (hl:l.length≤1000000) (hBw:B≤w.heap.size) :
 Calls Tryz.prog 133 #[.pointer (some ⟨b,0,none⟩),.int .i64 (n:Int)] w fun e w'=>e=.returned (.tuple #[])∧bI w' B b (l++putL n)∧Below B w w'∧NonB b w w':=by
 have H:=hid h;have hp:=aK (n:=n) (by omega);have hk:IntKind.u64.wrap (n:Int)=(n:Int):=DI _ (by omega);obtain ⟨P,hP⟩:∃ P:ByteArray,⟨(putL n).toArray⟩=P:=⟨_,rfl⟩;have hPd:putL n=P.data.toList:=by rw [←hP]
 have hPs:P.size≤10:=by rw [←hP,bm];exact hp
 have HPD:=hid hPd;have HP:=hid hP;rw [hPd];clear h hp hP hPd;go_enter Tryz.func133,Tryz.ntmps133
 go_wp2;go_region_held3 (fun w'=>True) (trivial) (first
  | (go_at_call 93;((with_reducible refine (ka n _ (by omega)).mono ?_);rintro r w1 ⟨rfl,hb1⟩;rw [HP.out];have HB1:Hid (Below w.heap.size w w1):=hid (bQ hb1);clear hb1))
  | (go_at_call 126;((with_reducible refine (sF B b l P w1 (H.out.below HB1.out) (by omega) (by have:=HB1.out.size;omega)).mono ?_);rintro r w2 ⟨rfl,hbl,hb2,hn2⟩;have H2:=hid hbl;have HB2:=hid ((HB1.out.mono hBw).trans hb2);have HN2:=hid ((NonB.of (b:=b) HB1.out).trans hn2 HB1.out.size);clear hbl hb2 hn2))
  | fail)
 go_wp2
 go_end0
 exact ⟨rfl,H2.out,HB2.out,HN2.out⟩
theorem wW (v:Value) (l:List Wr) (w:World) (hv:bj w v l) (hl:l.length≤1000000) :
 Calls Tryz.prog 132 #[v] w fun e w'=>∃ u,e=.returned u∧ak w' w.heap.size u (ay l)∧Below w.heap.size w w':=by
 obtain ⟨a1,c1,rfl,f1⟩:=hv.form;have F1:=hid f1;obtain ⟨n,hn⟩:∃ n,n=l.length:=⟨_,rfl⟩;rw [←hn] at hl ⊢;have HN:=hid hn;clear f1 hn hv;go_enter Tryz.func132,Tryz.ntmps132
 go_wp2
 go_loopw [3,8] (fun x i wr=>∃ k:Nat,k≤n∧i=.int .i64 k∧ak wr w.heap.size x ((ay l).take k)∧Below w.heap.size w wr) (fun _ i _=>n-(intOf i).toNat)
 case atStart=>exact ⟨0,Ds _,rfl,bK _ _,Below.refl _ _⟩
 case round =>
  obtain ⟨k,hk,rfl,hos,hbel⟩:=hrel;have HO:=hid hos;have HB:=hid hbel;obtain ⟨ad,cp,rfl,hcp,g1⟩:=hos.isTexts;have hkl:((ay l).take k).length=k:=by rw [DK];have:=HN.out;unfold ay;rw [E9];omega
  have HKL:=hid hkl;rw [hkl] at HO hcp;rw [hkl];clear hos hbel hkl g1 hcp;by_cases hlt:k<n
  ·obtain ⟨x, hx⟩ : ∃ x, l[k]? = some x := ⟨l[k]'(by have := HN.out; omega), Di _⟩;obtain ⟨b1,o1,rfl,hb1,p0,p1,p2,p3,p4,p5⟩:=F1.out k x hx;have q0:=(HB.out.cell (p:=⟨b1,o1+k * 6,none⟩) hb1).trans p0;have q1:=(HB.out.cell (p:=⟨b1,o1+k * 6+1,none⟩) hb1).trans p1;have q2:=(HB.out.cell (p:=⟨b1,o1+k * 6+2,none⟩) hb1).trans p2;have q3:=(HB.out.cell (p:=⟨b1,o1+k * 6+3,none⟩) hb1).trans p3;have q4:=(HB.out.cell (p:=⟨b1,o1+k * 6+4,none⟩) hb1).trans p4;have q5:=(HB.out.cell (p:=⟨b1,o1+k * 6+5,none⟩) hb1).trans p5;have HTK:Hid ((ay l).take k++[x.key]=(ay l).take (k+1)):=hid (show _=_ by
    have h2:(ay l)[k]? = some x.key:=by unfold ay;rw [ER,hx];rfl
    obtain ⟨hk2,e⟩:=Do.1 h2;rw [←e,EC hk2])
   obtain ⟨T,R,K,key,val,N⟩:=x;dsimp only at q0 q1 q2 q3 q4 q5 HTK
   clear p0 p1 p2 p3 p4 p5 hx;obtain ⟨L,hL⟩:∃ L,(ay l).take k=L:=⟨_,rfl⟩;rw [hL] at HO HKL HTK;clear hL;go_wp2_with (at_builtin;refine fi rfl _ _ rfl w.heap.size _ L rfl ((HO.out.alloc _).alloc _) ⟨wr.heap.size+1,0,none⟩ 1 rfl key (by simp [Addr.add]) (by have:=HKL.out;omega) (by have:=HB.out.size;simp;omega) ?_)
   intro g cap w4 ho4 hg4;rw [HTK.out] at ho4;have HO4:=hid ho4;have HB4:Hid (Below w.heap.size w w4):=hid (((HB.out.alloc HB.out.size _).alloc (by have:=HB.out.size;simp;omega) _).grown hg4 (by have:=HB.out.size;simp;omega) (fun g hg=>(HO.out.lt g hg).1));have HKL1:Hid (L.length+1=k+1):=hid (by rw [HKL.out]);rw [HKL1.out] at HO4 ⊢;clear ho4 hg4;go_wp2;go_roundw
   case rel=>exact ⟨k+1,by omega,by go_num,HO4.out,HB4.out⟩
   case measure=>simp [intOf];omega
  ·have HT:Hid ((ay l).take k=ay l):=hid (DL (by unfold ay;rw [E9];have:=HN.out;omega));go_wp2;go_ret;rw [HT.out] at HO;exact ⟨_,rfl,HO.out,HB.out⟩
end
section
open Go.RowKit
theorem wJ {l:List UInt8} {ahead:Int} (h0:0≤ahead) (h1:ahead≤1099511627776) {t k e:Nat} (h:intL l (1099511627776-ahead)=(t,k,e)) :
 (e=0∧intL l 1099511627776=(t,k,0)∧ahead+(t:Int)≤1099511627776) ∨
 (e≠0∧(∃ t' k',intL l 1099511627776=(t',k',e))∨(e=2∧∃ t' k',intL l 1099511627776=(t',k',0)∧1099511627776<ahead+(t':Int))):=by
 rcases cu l with ⟨d,hg,hd⟩ | ⟨n,j,hg,_,_,_,_⟩
 ·rw [f8 hg hd] at h;injection h with h2 h3
  injection h3 with h3 h4
  subst h2 h3 h4;exact .inr (.inl ⟨hd,_,_,f8 hg hd⟩)
 ·by_cases hm:(1099511627776:Int)<(n:Int)
  ·rw [dG hg (by omega)] at h;injection h with h2 h3
   injection h3 with h3 h4
   subst h2 h3 h4;exact .inr (.inl ⟨by decide,_,_,dG hg (by omega)⟩)
  ·by_cases hm2:1099511627776-ahead<(n:Int)
   ·rw [dG hg (by omega)] at h;injection h with h2 h3
    injection h3 with h3 h4
    subst h2 h3 h4;exact .inr (.inr ⟨rfl,_,_,eo hg (by omega),by omega⟩)
   ·rw [eo hg (by omega)] at h;injection h with h2 h3
    injection h3 with h3 h4
    subst h2 h3 h4;exact .inl ⟨rfl,eo hg (by omega),by omega⟩
end
