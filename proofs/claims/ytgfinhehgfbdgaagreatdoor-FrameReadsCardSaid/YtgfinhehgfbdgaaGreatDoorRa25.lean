import Derived.Test.YtgfinhehgfbdgaaGreatDoorRa21
import Derived.Test.YtgfinhehgfbdgaaGreatDoorRa14
namespace Go.Proofs.YtgfinhehgfbdgaaGreatDoor
open Go.RowKit
def evI (e:Nat):Value:=.int .i64 (e:Nat)
theorem rows_two (w:World) (cs zs:Array Value) (t:TypeId):((w.alloc (.cells cs t)).alloc (.cells zs t)).heap[w.heap.size]? = some (.cells cs t (0,0))∧((w.alloc (.cells cs t)).alloc (.cells zs t)).heap[w.heap.size+1]? = some (.cells zs t (0,0)) ∧
   w.heap.size+1<((w.alloc (.cells cs t)).alloc (.cells zs t)).heap.size∧Below w.heap.size w ((w.alloc (.cells cs t)).alloc (.cells zs t)):=by
 refine ⟨?_,?_,by simp,((Below.refl _ _).alloc (Nat.le_refl _) _).alloc (by simp) _⟩
 · rw [Below.heap_alloc _ _ _ (by simp)];exact heap_alloc_new _ _
 · have h:=heap_alloc_new (w.alloc (.cells cs t)) (.cells zs t);rw [World.size_alloc] at h;exact h
set_option maxRecDepth 100000 in
set_option maxHeartbeats 8000000 in
theorem rfill_none (T R K:Int) (key val:ByteArray) (N:Int) (s:ByteArray) (w:World) (hk:key.size≤140737488351232) (h1:K≠1) (h3:K≠3) (h4:K≠4) :
   Calls Tryz.prog 93 #[.agg #[.int .i64 T,.int .i64 R,.int .i64 K,.string key,.string val,.int .i64 N],.string s] w fun e w'=>(∃ r,e=.returned r∧FillOut evI T R K key s.data.toList r)∧Below w.heap.size w w':=by
 have b1:(K == 1)=false:=by simpa using h1
 have b3:(K == 3)=false:=by simpa using h3
 have b4:(K == 4)=false:=by simpa using h4
 have HN:Hid (getN K s.data.toList=(0,0,0)):=Lib.hid (show _=_ by unfold getN;rw [if_neg h3,if_neg h4]);have hV:hasV K=false:=by unfold hasV;rw [decide_eq_false h1,decide_eq_false h4];rfl
 have HV:Hid (getV K (s.data.toList.drop 0)=([],0,0)):=Lib.hid (show _=_ by unfold getV;rw [hV,if_neg (by decide)]);go_enter Tryz.func93,Tryz.ntmps93
 go_wp2_with fail
 refine (rwright_any T R K key ⟨#[]⟩ 0 _ hk (Nat.zero_le _)).mono ?_;rintro r w1 ⟨rfl,hb5⟩;have HRB:=Lib.hid (rows_two w #[.int .i64 T,.int .i64 R,.int .i64 K,.string key,.string ⟨#[]⟩,.int .i64 0] #[.int .i64 0,.int .i64 0,.int .i64 0,.string ⟨#[]⟩,.string ⟨#[]⟩,.int .i64 0] 61).1;have HRZ:=Lib.hid (rows_two w #[.int .i64 T,.int .i64 R,.int .i64 K,.string key,.string ⟨#[]⟩,.int .i64 0] #[.int .i64 0,.int .i64 0,.int .i64 0,.string ⟨#[]⟩,.string ⟨#[]⟩,.int .i64 0] 61).2.1;have HLW:=Lib.hid (rows_two w #[.int .i64 T,.int .i64 R,.int .i64 K,.string key,.string ⟨#[]⟩,.int .i64 0] #[.int .i64 0,.int .i64 0,.int .i64 0,.string ⟨#[]⟩,.string ⟨#[]⟩,.int .i64 0] 61).2.2.1;have HBW:=Lib.hid (rows_two w #[.int .i64 T,.int .i64 R,.int .i64 K,.string key,.string ⟨#[]⟩,.int .i64 0] #[.int .i64 0,.int .i64 0,.int .i64 0,.string ⟨#[]⟩,.string ⟨#[]⟩,.int .i64 0] 61).2.2.2;obtain ⟨E,hE⟩:∃ E,wriE T R K key ⟨#[]⟩ 0=E:=⟨_,rfl⟩;rw [hE];have rB6:=(hb5.block _ (Nat.lt_of_succ_lt HLW.out)).trans HRB.out;have rZ6:=(hb5.block _ HLW.out).trans HRZ.out;have HB6:=Lib.hid (HBW.out.trans (hb5.mono HBW.out.size));have HRB6:=Lib.hid rB6;have HRZ6:=Lib.hid rZ6;have HE6:=Lib.hid hE;clear hb5 rB6 rZ6 hE;by_cases h0:E=0
 · subst h0;have HI:=Lib.hid (wr_sized (.int .i64 T) (.int .i64 R) (.int .i64 K) (.string key) (.string ⟨#[]⟩) (.int .i64 0));have HRZ9:=Lib.hid (row_set HRZ6.out #[.int .i64 T,.int .i64 R,.int .i64 K,.string key,.string ⟨#[]⟩,.int .i64 0]);have HONE:=Lib.hid (wr_ones T R K key ⟨#[]⟩ 0);have HSAME:=Lib.hid (wr_same T R K key ⟨#[]⟩ 0);have HOUT:=Lib.hid (fillOut_ok (ev:=evI) (R:=R) HN.out HV.out HE6.out);rw [show ((0:Nat):Int)=0 from rfl];go_wp2_with (first
     | (with_reducible refine wpList_load_row rfl _ _ rfl _ rfl _ _ _ _ HRB6.out Tryz.underlying61 rfl HI.out ?_)
     | (with_reducible refine wpList_store_row rfl _ _ _ rfl _ _ rfl rfl _ _ HRZ6.out HI.out HSAME.out HONE.out ?_))
   obtain ⟨c0,c1,c2,c3,c4,c5⟩:=row_at HRZ9.out;refine bodyPost_ret (v:=.tuple #[.agg #[.int .i64 T,.int .i64 R,.int .i64 K,.string key,.string ⟨#[]⟩,.int .i64 0],.int .i64 0,.int .i64 0]) (by simp [results,Tryz.results93,go_sem,c0,c1,c2,c3,c4,c5]) rfl ?_;exact ⟨⟨_,rfl,HOUT.out⟩,below_row HB6.out (Nat.le_succ _) _⟩
 · have HR:=Lib.hid (fillOut_bad (ev:=evI) (T:=T) (R:=R) (key:=key) ((fillE_w (T:=T) (R:=R) (key:=key) HN.out HV.out).trans HE6.out) h0);have hne:((E:Int) != 0)=true:=by simp;omega
   obtain ⟨c0,c1,c2,c3,c4,c5⟩:=row_at HRZ6.out;obtain ⟨f0,f1,f2,f3,f4,f5⟩:=free_row HRZ6.out;go_wp2;refine bodyPost_ret (v:=.tuple #[zeroW,.int .i64 0,.int .i64 E]) (by simp [results,Tryz.results93,go_sem,zeroW,c0,c1,c2,c3,c4,c5]) rfl ?_;exact ⟨⟨_,rfl,HR.out⟩,below_six HB6.out (Nat.le_succ _) _ _ _ _ _ _⟩
set_option maxRecDepth 100000 in
set_option maxHeartbeats 8000000 in
theorem rfill_put (T R:Int) (key val:ByteArray) (N:Int) (s:ByteArray) (w:World) (hk:key.size≤140737488351232) (hs:s.size≤140737488351232) :
   Calls Tryz.prog 93 #[.agg #[.int .i64 T,.int .i64 R,.int .i64 1,.string key,.string val,.int .i64 N],.string s] w fun e w'=>(∃ r,e=.returned r∧FillOut evI T R 1 key s.data.toList r)∧Below w.heap.size w w':=by
 have HN:Hid (getN 1 s.data.toList=(0,0,0)):=Lib.hid rfl;obtain ⟨v,j,e,hv⟩:∃ v j e,getV 1 (s.data.toList.drop 0)=(v,j,e):=⟨_,_,_,rfl⟩;have hg:getS s.data.toList=(v,j,e):=hv;have hle:=getV_le 1 (s.data.toList.drop 0);rw [hv,List.drop_zero,←size_data] at hle;simp only at hle
 have HV:=Lib.hid hv;have HG:=Lib.hid hg;have HLE:=Lib.hid hle;clear hv hg hle;go_enter Tryz.func93,Tryz.ntmps93
 go_wp2_with fail
 refine (runspan_any s _ hs).mono ?_;rintro r w1 ⟨rfl,rfl⟩;rw [HG.out];unfold spanR;by_cases he:e=0
 · subst he;have d1:(0:Int)≤(j:Int):=by omega
   have d2:(j:Int)≤(s.size:Int):=by have:=HLE.out.2;omega
   rw [show ((0:Nat):Int)=0 from rfl];go_wp2;go_region
   obtain ⟨U,hU⟩:∃ U,s.extract j s.size=U:=⟨_,rfl⟩;have hus:U.size=s.size-j:=by rw [←hU,ByteArray.size_extract];omega
   rw [hU];have HUS:=Lib.hid hus;have hub:U.size≤140737488351232:=by omega
   clear hU hus;go_wp2_with fail
   have hvl:(⟨v.toArray⟩:ByteArray).size≤140737488351232:=by rw [bs_size];have:=HLE.out.1;omega
   refine (rwright_any T R 1 key ⟨v.toArray⟩ 0 _ hk hvl).mono ?_;rintro r w1 ⟨rfl,hb5⟩;have HRB:=Lib.hid (rows_two w #[.int .i64 T,.int .i64 R,.int .i64 1,.string key,.string ⟨v.toArray⟩,.int .i64 0] #[.int .i64 0,.int .i64 0,.int .i64 0,.string ⟨#[]⟩,.string ⟨#[]⟩,.int .i64 0] 61).1;have HRZ:=Lib.hid (rows_two w #[.int .i64 T,.int .i64 R,.int .i64 1,.string key,.string ⟨v.toArray⟩,.int .i64 0] #[.int .i64 0,.int .i64 0,.int .i64 0,.string ⟨#[]⟩,.string ⟨#[]⟩,.int .i64 0] 61).2.1;have HLW:=Lib.hid (rows_two w #[.int .i64 T,.int .i64 R,.int .i64 1,.string key,.string ⟨v.toArray⟩,.int .i64 0] #[.int .i64 0,.int .i64 0,.int .i64 0,.string ⟨#[]⟩,.string ⟨#[]⟩,.int .i64 0] 61).2.2.1;have HBW:=Lib.hid (rows_two w #[.int .i64 T,.int .i64 R,.int .i64 1,.string key,.string ⟨v.toArray⟩,.int .i64 0] #[.int .i64 0,.int .i64 0,.int .i64 0,.string ⟨#[]⟩,.string ⟨#[]⟩,.int .i64 0] 61).2.2.2.drew;obtain ⟨E,hE⟩:∃ E,wriE T R 1 key ⟨v.toArray⟩ 0=E:=⟨_,rfl⟩;rw [hE];have rB6:=(hb5.block _ (Nat.lt_of_succ_lt HLW.out)).trans HRB.out;have rZ6:=(hb5.block _ HLW.out).trans HRZ.out;have HB6:=Lib.hid (HBW.out.trans (hb5.mono HBW.out.size));have HRB6:=Lib.hid rB6;have HRZ6:=Lib.hid rZ6;have HE6:=Lib.hid hE;clear hb5 rB6 rZ6 hE
   by_cases h0:E=0
   · subst h0;have HI:=Lib.hid (wr_sized (.int .i64 T) (.int .i64 R) (.int .i64 1) (.string key) (.string ⟨v.toArray⟩) (.int .i64 0));have HRZ9:=Lib.hid (row_set HRZ6.out #[.int .i64 T,.int .i64 R,.int .i64 1,.string key,.string ⟨v.toArray⟩,.int .i64 0]);have HONE:=Lib.hid (wr_ones T R 1 key ⟨v.toArray⟩ 0);have HSAME:=Lib.hid (wr_same T R 1 key ⟨v.toArray⟩ 0);have HOUT:=Lib.hid (fillOut_ok (ev:=evI) (R:=R) HN.out HV.out HE6.out);rw [show ((0:Nat):Int)=0 from rfl];go_wp2_with (first
       | (with_reducible refine wpList_load_row rfl _ _ rfl _ rfl _ _ _ _ HRB6.out Tryz.underlying61 rfl HI.out ?_)
       | (with_reducible refine wpList_store_row rfl _ _ _ rfl _ _ rfl rfl _ _ HRZ6.out HI.out HSAME.out HONE.out ?_))
     have hsz:(s.size:Int)-(U.size:Int)=((0+j:Nat):Int):=by have h1:=HUS.out;have h2:=HLE.out.2;omega
     rw [hsz];obtain ⟨c0,c1,c2,c3,c4,c5⟩:=row_at HRZ9.out;refine bodyPost_ret (v:=.tuple #[.agg #[.int .i64 T,.int .i64 R,.int .i64 1,.string key,.string ⟨v.toArray⟩,.int .i64 0],.int .i64 ((0+j:Nat):Int),.int .i64 0]) (by simp [results,Tryz.results93,go_sem,c0,c1,c2,c3,c4,c5]) rfl ?_;exact ⟨⟨_,rfl,HOUT.out⟩,below_row HB6.out (Nat.le_succ _) _⟩
   · have HR:=Lib.hid (fillOut_bad (ev:=evI) (T:=T) (R:=R) (key:=key) ((fillE_w (T:=T) (R:=R) (key:=key) HN.out HV.out).trans HE6.out) h0);have hne:((E:Int) != 0)=true:=by simp;omega
     obtain ⟨c0,c1,c2,c3,c4,c5⟩:=row_at HRZ6.out;obtain ⟨f0,f1,f2,f3,f4,f5⟩:=free_row HRZ6.out;go_wp2;refine bodyPost_ret (v:=.tuple #[zeroW,.int .i64 0,.int .i64 E]) (by simp [results,Tryz.results93,go_sem,zeroW,c0,c1,c2,c3,c4,c5]) rfl ?_;exact ⟨⟨_,rfl,HR.out⟩,below_six HB6.out (Nat.le_succ _) _ _ _ _ _ _⟩
 · have HR:=Lib.hid (fillOut_bad (ev:=evI) (T:=T) (R:=R) (key:=key) (fillE_v HN.out HV.out he) he);have hne:((e:Int) != 0)=true:=by simp;omega
   go_wp2;refine bodyPost_ret (v:=.tuple #[zeroW,.int .i64 0,.int .i64 e]) (by simp [results,Tryz.results93,go_sem,zeroW]) rfl ?_;exact ⟨⟨_,rfl,HR.out⟩,((Below.refl _ _).alloc (Nat.le_refl _) _).alloc (by simp) _⟩
set_option maxRecDepth 100000 in
set_option maxHeartbeats 8000000 in
theorem rfill_add (T R:Int) (key val:ByteArray) (N:Int) (s:ByteArray) (w:World) (hk:key.size≤140737488351232) (hs:s.size≤140737488351232) :
   Calls Tryz.prog 93 #[.agg #[.int .i64 T,.int .i64 R,.int .i64 3,.string key,.string val,.int .i64 N],.string s] w fun e w'=>(∃ r,e=.returned r∧FillOut evI T R 3 key s.data.toList r)∧Below w.heap.size w w':=by
 have hs2:s.size≤maxLen:=by unfold maxLen;omega
 obtain ⟨m,k,e,hg⟩:∃ m k e,getL s.data.toList=(m,k,e):=⟨_,_,_,rfl⟩;obtain ⟨n,hn⟩:∃ n,zagN m=n:=⟨_,rfl⟩;have hN:getN 3 s.data.toList=(n,k,e):=by unfold getN;rw [if_pos rfl,hg,←hn]
 have hle:=getN_le 3 s.data.toList;rw [hN,←size_data] at hle;simp only at hle
 have hm:m≤18446744073709551615:=by
   rcases getL_cases s.data.toList with ⟨e',h,_⟩ | ⟨m',k',h,h2,_⟩
   · rw [hg] at h;simp only [Prod.mk.injEq] at h;omega
   · rw [hg] at h;simp only [Prod.mk.injEq] at h;omega
 have HN:=Lib.hid hN;have HG:=Lib.hid hg;have HZ:=Lib.hid hn;have HLE:=Lib.hid hle;have HV:Hid (getV 3 (s.data.toList.drop k)=([],0,0)):=Lib.hid rfl;clear hN hg hle hn;go_enter Tryz.func93,Tryz.ntmps93
 go_wp2_with fail
 refine (unvary_any s _ hs2).mono ?_;rintro r w1 ⟨rfl,rfl⟩;rw [HG.out];unfold numR;by_cases he:e=0
 · subst he;have d1:(0:Int)≤(k:Int):=by omega
   have d2:(k:Int)≤(s.size:Int):=by have:=HLE.out.1;omega
   have m0:(0:Int)≤(m:Int):=by omega
   have m1:(m:Int)≤18446744073709551615:=by omega
   rw [show ((0:Nat):Int)=0 from rfl];go_wp2;go_region_held3 (fun w'=>True) (trivial) (first | (go_at_call 144;((with_reducible refine (zagr_any (m:Int) _ m0 m1).mono ?_);rintro r w' ⟨rfl,rfl⟩;rw [HZ.out])) | fail)
   obtain ⟨U,hU⟩:∃ U,s.extract k s.size=U:=⟨_,rfl⟩;have hus:U.size=s.size-k:=by rw [←hU,ByteArray.size_extract];omega
   rw [hU];have HUS:=Lib.hid hus;have hub:U.size≤140737488351232:=by omega
   clear hU hus;go_wp2_with fail
   refine (rwright_any T R 3 key ⟨#[]⟩ n _ hk (Nat.zero_le _)).mono ?_;rintro r w1 ⟨rfl,hb5⟩;have HRB:=Lib.hid (rows_two w #[.int .i64 T,.int .i64 R,.int .i64 3,.string key,.string ⟨#[]⟩,.int .i64 n] #[.int .i64 0,.int .i64 0,.int .i64 0,.string ⟨#[]⟩,.string ⟨#[]⟩,.int .i64 0] 61).1;have HRZ:=Lib.hid (rows_two w #[.int .i64 T,.int .i64 R,.int .i64 3,.string key,.string ⟨#[]⟩,.int .i64 n] #[.int .i64 0,.int .i64 0,.int .i64 0,.string ⟨#[]⟩,.string ⟨#[]⟩,.int .i64 0] 61).2.1;have HLW:=Lib.hid (rows_two w #[.int .i64 T,.int .i64 R,.int .i64 3,.string key,.string ⟨#[]⟩,.int .i64 n] #[.int .i64 0,.int .i64 0,.int .i64 0,.string ⟨#[]⟩,.string ⟨#[]⟩,.int .i64 0] 61).2.2.1;have HBW:=Lib.hid (rows_two w #[.int .i64 T,.int .i64 R,.int .i64 3,.string key,.string ⟨#[]⟩,.int .i64 n] #[.int .i64 0,.int .i64 0,.int .i64 0,.string ⟨#[]⟩,.string ⟨#[]⟩,.int .i64 0] 61).2.2.2.drew;obtain ⟨E,hE⟩:∃ E,wriE T R 3 key ⟨#[]⟩ n=E:=⟨_,rfl⟩;rw [hE];have rB6:=(hb5.block _ (Nat.lt_of_succ_lt HLW.out)).trans HRB.out;have rZ6:=(hb5.block _ HLW.out).trans HRZ.out;have HB6:=Lib.hid (HBW.out.trans (hb5.mono HBW.out.size));have HRB6:=Lib.hid rB6;have HRZ6:=Lib.hid rZ6;have HE6:=Lib.hid hE;clear hb5 rB6 rZ6 hE;by_cases h0:E=0
   · subst h0;have HI:=Lib.hid (wr_sized (.int .i64 T) (.int .i64 R) (.int .i64 3) (.string key) (.string ⟨#[]⟩) (.int .i64 n));have HRZ9:=Lib.hid (row_set HRZ6.out #[.int .i64 T,.int .i64 R,.int .i64 3,.string key,.string ⟨#[]⟩,.int .i64 n]);have HONE:=Lib.hid (wr_ones T R 3 key ⟨#[]⟩ n);have HSAME:=Lib.hid (wr_same T R 3 key ⟨#[]⟩ n);have HOUT:=Lib.hid (fillOut_ok (ev:=evI) (R:=R) HN.out HV.out HE6.out);rw [show ((0:Nat):Int)=0 from rfl];go_wp2_with (first
       | (with_reducible refine wpList_load_row rfl _ _ rfl _ rfl _ _ _ _ HRB6.out Tryz.underlying61 rfl HI.out ?_)
       | (with_reducible refine wpList_store_row rfl _ _ _ rfl _ _ rfl rfl _ _ HRZ6.out HI.out HSAME.out HONE.out ?_))
     have hsz:(s.size:Int)-(U.size:Int)=((k+0:Nat):Int):=by have h1:=HUS.out;have h2:=HLE.out.1;omega
     rw [hsz];obtain ⟨c0,c1,c2,c3,c4,c5⟩:=row_at HRZ9.out;refine bodyPost_ret (v:=.tuple #[.agg #[.int .i64 T,.int .i64 R,.int .i64 3,.string key,.string ⟨#[]⟩,.int .i64 n],.int .i64 ((k+0:Nat):Int),.int .i64 0]) (by simp [results,Tryz.results93,go_sem,c0,c1,c2,c3,c4,c5]) rfl ?_;exact ⟨⟨_,rfl,HOUT.out⟩,below_row HB6.out (Nat.le_succ _) _⟩
   · have HR:=Lib.hid (fillOut_bad (ev:=evI) (T:=T) (R:=R) (key:=key) ((fillE_w (T:=T) (R:=R) (key:=key) HN.out HV.out).trans HE6.out) h0);have hne:((E:Int) != 0)=true:=by simp;omega
     obtain ⟨c0,c1,c2,c3,c4,c5⟩:=row_at HRZ6.out;obtain ⟨f0,f1,f2,f3,f4,f5⟩:=free_row HRZ6.out;go_wp2;refine bodyPost_ret (v:=.tuple #[zeroW,.int .i64 0,.int .i64 E]) (by simp [results,Tryz.results93,go_sem,zeroW,c0,c1,c2,c3,c4,c5]) rfl ?_;exact ⟨⟨_,rfl,HR.out⟩,below_six HB6.out (Nat.le_succ _) _ _ _ _ _ _⟩
 · have HR:=Lib.hid (fillOut_bad (ev:=evI) (T:=T) (R:=R) (key:=key) (fillE_n HN.out he) he);have hne:((e:Int) != 0)=true:=by simp;omega
   go_wp2;refine bodyPost_ret (v:=.tuple #[zeroW,.int .i64 0,.int .i64 e]) (by simp [results,Tryz.results93,go_sem,zeroW]) rfl ?_;exact ⟨⟨_,rfl,HR.out⟩,((Below.refl _ _).alloc (Nat.le_refl _) _).alloc (by simp) _⟩
set_option maxRecDepth 100000 in
set_option maxHeartbeats 8000000 in
theorem rfill_ins (T R:Int) (key val:ByteArray) (N:Int) (s:ByteArray) (w:World) (hk:key.size≤140737488351232) (hs:s.size≤140737488351232) :
   Calls Tryz.prog 93 #[.agg #[.int .i64 T,.int .i64 R,.int .i64 4,.string key,.string val,.int .i64 N],.string s] w fun e w'=>(∃ r,e=.returned r∧FillOut evI T R 4 key s.data.toList r)∧Below w.heap.size w w':=by
 have hs2:s.size≤maxLen:=by unfold maxLen;omega
 obtain ⟨m,k,e,hg⟩:∃ m k e,intL s.data.toList 1000=(m,k,e):=⟨_,_,_,rfl⟩;have hN:getN 4 s.data.toList=((m:Int),k,e):=by unfold getN;rw [if_neg (by decide),if_pos rfl,hg]
 have hle:=getN_le 4 s.data.toList;rw [hN,←size_data] at hle;simp only at hle
 have HN:=Lib.hid hN;have HG:=Lib.hid hg;have HLE:=Lib.hid hle;obtain ⟨n,hn⟩:∃ n:Int,(m:Int)=n:=⟨_,rfl⟩;rw [hn] at HN;clear hN hg hle;go_enter Tryz.func93,Tryz.ntmps93
 go_wp2_with fail
 refine (rint_any s 1000 _ hs2 (by decide) (by decide)).mono ?_;rintro r w1 ⟨rfl,rfl⟩;rw [HG.out];unfold intR;simp only
 rw [hn];clear hn;by_cases he:e=0
 · subst he;obtain ⟨v,j,e,hv⟩:∃ v j e,getV 4 (s.data.toList.drop k)=(v,j,e):=⟨_,_,_,rfl⟩;have hvl:=getV_le 4 (s.data.toList.drop k);rw [hv,List.length_drop,←size_data] at hvl;simp only at hvl
   have HVL:=Lib.hid hvl;have d1:(0:Int)≤(k:Int):=by omega
   have d2:(k:Int)≤(s.size:Int):=by have:=HLE.out.1;omega
   rw [show ((0:Nat):Int)=0 from rfl];go_wp2;go_region
   obtain ⟨U,hU⟩:∃ U,s.extract k s.size=U:=⟨_,rfl⟩;have hus:U.size=s.size-k:=by rw [←hU,ByteArray.size_extract];omega
   have hud:U.data.toList=s.data.toList.drop k:=by rw [←hU,ext_data,List.take_of_length_le (by rw [←size_data];exact Nat.le_refl _)]
   rw [hU];have HUS:=Lib.hid hus;have hub:U.size≤140737488351232:=by omega
   have HG2:Hid (getS U.data.toList=(v,j,e)):=Lib.hid (by rw [hud];exact hv);have HV:=Lib.hid hv;clear hU hus hud hv hvl;go_wp2_with fail
   refine (runspan_any U _ hub).mono ?_;rintro r w1 ⟨rfl,rfl⟩;rw [HG2.out];unfold spanR;by_cases he:e=0
   · subst he;have d3:(0:Int)≤(j:Int):=by omega
     have d4:(j:Int)≤(U.size:Int):=by have:=HVL.out.2;have:=HUS.out;omega
     rw [show ((0:Nat):Int)=0 from rfl];go_wp2;go_region
     obtain ⟨Y,hY⟩:∃ Y,U.extract j U.size=Y:=⟨_,rfl⟩;have hys:Y.size=U.size-j:=by rw [←hY,ByteArray.size_extract];omega
     rw [hY];have HYS:=Lib.hid hys;have hyb:Y.size≤140737488351232:=by omega
     clear hY hys;go_wp2_with fail
     have hvl:(⟨v.toArray⟩:ByteArray).size≤140737488351232:=by rw [bs_size];have:=HVL.out.1;omega
     refine (rwright_any T R 4 key ⟨v.toArray⟩ n _ hk hvl).mono ?_;rintro r w1 ⟨rfl,hb5⟩;have HRB:=Lib.hid (rows_two w #[.int .i64 T,.int .i64 R,.int .i64 4,.string key,.string ⟨v.toArray⟩,.int .i64 n] #[.int .i64 0,.int .i64 0,.int .i64 0,.string ⟨#[]⟩,.string ⟨#[]⟩,.int .i64 0] 61).1;have HRZ:=Lib.hid (rows_two w #[.int .i64 T,.int .i64 R,.int .i64 4,.string key,.string ⟨v.toArray⟩,.int .i64 n] #[.int .i64 0,.int .i64 0,.int .i64 0,.string ⟨#[]⟩,.string ⟨#[]⟩,.int .i64 0] 61).2.1;have HLW:=Lib.hid (rows_two w #[.int .i64 T,.int .i64 R,.int .i64 4,.string key,.string ⟨v.toArray⟩,.int .i64 n] #[.int .i64 0,.int .i64 0,.int .i64 0,.string ⟨#[]⟩,.string ⟨#[]⟩,.int .i64 0] 61).2.2.1;have HBW:=Lib.hid (rows_two w #[.int .i64 T,.int .i64 R,.int .i64 4,.string key,.string ⟨v.toArray⟩,.int .i64 n] #[.int .i64 0,.int .i64 0,.int .i64 0,.string ⟨#[]⟩,.string ⟨#[]⟩,.int .i64 0] 61).2.2.2.drew.drew;obtain ⟨E,hE⟩:∃ E,wriE T R 4 key ⟨v.toArray⟩ n=E:=⟨_,rfl⟩;rw [hE];have rB6:=(hb5.block _ (Nat.lt_of_succ_lt HLW.out)).trans HRB.out;have rZ6:=(hb5.block _ HLW.out).trans HRZ.out;have HB6:=Lib.hid (HBW.out.trans (hb5.mono HBW.out.size));have HRB6:=Lib.hid rB6;have HRZ6:=Lib.hid rZ6;have HE6:=Lib.hid hE
     clear hb5 rB6 rZ6 hE;by_cases h0:E=0
     · subst h0;have HI:=Lib.hid (wr_sized (.int .i64 T) (.int .i64 R) (.int .i64 4) (.string key) (.string ⟨v.toArray⟩) (.int .i64 n));have HRZ9:=Lib.hid (row_set HRZ6.out #[.int .i64 T,.int .i64 R,.int .i64 4,.string key,.string ⟨v.toArray⟩,.int .i64 n]);have HONE:=Lib.hid (wr_ones T R 4 key ⟨v.toArray⟩ n);have HSAME:=Lib.hid (wr_same T R 4 key ⟨v.toArray⟩ n);have HOUT:=Lib.hid (fillOut_ok (ev:=evI) (R:=R) HN.out HV.out HE6.out);rw [show ((0:Nat):Int)=0 from rfl];go_wp2_with (first
         | (with_reducible refine wpList_load_row rfl _ _ rfl _ rfl _ _ _ _ HRB6.out Tryz.underlying61 rfl HI.out ?_)
         | (with_reducible refine wpList_store_row rfl _ _ _ rfl _ _ rfl rfl _ _ HRZ6.out HI.out HSAME.out HONE.out ?_))
       have hsz:(s.size:Int)-(Y.size:Int)=((k+j:Nat):Int):=by have h1:=HUS.out;have h2:=HLE.out.1;have h3:=HYS.out;have h4:=HVL.out.2;omega
       rw [hsz];obtain ⟨c0,c1,c2,c3,c4,c5⟩:=row_at HRZ9.out;refine bodyPost_ret (v:=.tuple #[.agg #[.int .i64 T,.int .i64 R,.int .i64 4,.string key,.string ⟨v.toArray⟩,.int .i64 n],.int .i64 ((k+j:Nat):Int),.int .i64 0]) (by simp [results,Tryz.results93,go_sem,c0,c1,c2,c3,c4,c5]) rfl ?_;exact ⟨⟨_,rfl,HOUT.out⟩,below_row HB6.out (Nat.le_succ _) _⟩
     · have HR:=Lib.hid (fillOut_bad (ev:=evI) (T:=T) (R:=R) (key:=key) ((fillE_w (T:=T) (R:=R) (key:=key) HN.out HV.out).trans HE6.out) h0);have hne:((E:Int) != 0)=true:=by simp;omega
       obtain ⟨c0,c1,c2,c3,c4,c5⟩:=row_at HRZ6.out;obtain ⟨f0,f1,f2,f3,f4,f5⟩:=free_row HRZ6.out;go_wp2;refine bodyPost_ret (v:=.tuple #[zeroW,.int .i64 0,.int .i64 E]) (by simp [results,Tryz.results93,go_sem,zeroW,c0,c1,c2,c3,c4,c5]) rfl ?_;exact ⟨⟨_,rfl,HR.out⟩,below_six HB6.out (Nat.le_succ _) _ _ _ _ _ _⟩
   · have HR:=Lib.hid (fillOut_bad (ev:=evI) (T:=T) (R:=R) (key:=key) (fillE_v HN.out HV.out he) he);have hne:((e:Int) != 0)=true:=by simp;omega
     go_wp2;refine bodyPost_ret (v:=.tuple #[zeroW,.int .i64 0,.int .i64 e]) (by simp [results,Tryz.results93,go_sem,zeroW]) rfl ?_;exact ⟨⟨_,rfl,HR.out⟩,(((Below.refl _ _).alloc (Nat.le_refl _) _).alloc (by simp) _).drew⟩
 · have HR:=Lib.hid (fillOut_bad (ev:=evI) (T:=T) (R:=R) (key:=key) (fillE_n HN.out he) he);have hne:((e:Int) != 0)=true:=by simp;omega
   go_wp2;refine bodyPost_ret (v:=.tuple #[zeroW,.int .i64 0,.int .i64 e]) (by simp [results,Tryz.results93,go_sem,zeroW]) rfl ?_;exact ⟨⟨_,rfl,HR.out⟩,((Below.refl _ _).alloc (Nat.le_refl _) _).alloc (by simp) _⟩
theorem rfill_any (T R K:Int) (key val:ByteArray) (N:Int) (s:ByteArray) (w:World) (hk:key.size≤140737488351232) (hs:s.size≤140737488351232) :
   Calls Tryz.prog 93 #[.agg #[.int .i64 T,.int .i64 R,.int .i64 K,.string key,.string val,.int .i64 N],.string s] w fun e w'=>(∃ r,e=.returned r∧FillOut evI T R K key s.data.toList r)∧Below w.heap.size w w':=by
 by_cases h1:K=1
 · subst h1;exact rfill_put T R key val N s w hk hs
 · by_cases h3:K=3
   · subst h3;exact rfill_add T R key val N s w hk hs
   · by_cases h4:K=4
     · subst h4;exact rfill_ins T R key val N s w hk hs
     · exact rfill_none T R K key val N s w hk h1 h3 h4
end Go.Proofs.YtgfinhehgfbdgaaGreatDoor
