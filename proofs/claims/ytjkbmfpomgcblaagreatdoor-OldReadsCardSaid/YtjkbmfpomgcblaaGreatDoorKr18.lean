import Derived.Test.YtjkbmfpomgcblaaGreatDoorKr11
import Derived.Test.YtjkbmfpomgcblaaGreatDoorKr16
namespace Go.Proofs.YtjkbmfpomgcblaaGreatDoor
open Go.RowKit
def evI (e:Nat):Value:=.int .i64 (e:Nat)
theorem rows_two (w:World) (cs zs:Array Value) (t:TypeId):((w.alloc (.cells cs t)).alloc (.cells zs t)).heap[w.heap.size]? = some (.cells cs t (0,0))∧((w.alloc (.cells cs t)).alloc (.cells zs t)).heap[w.heap.size + 1]? = some (.cells zs t (0,0)) ∧
   w.heap.size + 1 < ((w.alloc (.cells cs t)).alloc (.cells zs t)).heap.size∧Below w.heap.size w ((w.alloc (.cells cs t)).alloc (.cells zs t)):=by
 refine ⟨?_,?_,by simp,((Below.refl _ _).alloc (Nat.le_refl _) _).alloc (by simp) _⟩
 · rw [Below.heap_alloc _ _ _ (by simp)];exact heap_alloc_new _ _
 · have h:=heap_alloc_new (w.alloc (.cells cs t)) (.cells zs t)
   rw [World.size_alloc] at h;exact h
set_option maxRecDepth 100000 in
set_option maxHeartbeats 8000000 in
theorem rfill_none (T R K:Int) (key val:ByteArray) (N:Int) (s:ByteArray) (w:World) (hk:key.size≤140737488351232) (h1:K≠1) (h3:K≠3) (h4:K≠4) :
   Calls Tryz.prog 80 #[.agg #[.int .i64 T,.int .i64 R,.int .i64 K,.string key,.string val,.int .i64 N],.string s] w fun e w'=>(∃ r,e=.returned r∧FillOut evI T R K key s.data.toList r)∧Below w.heap.size w w':=by
 have b1:(K == 1)=false:=by simpa using h1
 have b3:(K == 3)=false:=by simpa using h3
 have b4:(K == 4)=false:=by simpa using h4
 have HN:Hid (getN K s.data.toList=(0,0,0)):=Lib.hid (show _=_ by unfold getN;rw [if_neg h3,if_neg h4])
 have hV:hasV K=false:=by unfold hasV;rw [decide_eq_false h1,decide_eq_false h4];rfl
 have HV:Hid (getV K (s.data.toList.drop 0)=([],0,0)):=Lib.hid (show _=_ by unfold getV;rw [hV,if_neg (by decide)])
 go_enter Tryz.func80,Tryz.ntmps80
 go_wp2_with fail
 refine (rwright_any T R K key ⟨#[]⟩ 0 _ hk (Nat.zero_le _)).mono ?_
 rintro r w1 ⟨rfl,hb5⟩
 have HRB:=Lib.hid (rows_two w #[.int .i64 T,.int .i64 R,.int .i64 K,.string key,.string ⟨#[]⟩,.int .i64 0] #[.int .i64 0,.int .i64 0,.int .i64 0,.string ⟨#[]⟩,.string ⟨#[]⟩,.int .i64 0] 59).1
 have HRZ:=Lib.hid (rows_two w #[.int .i64 T,.int .i64 R,.int .i64 K,.string key,.string ⟨#[]⟩,.int .i64 0] #[.int .i64 0,.int .i64 0,.int .i64 0,.string ⟨#[]⟩,.string ⟨#[]⟩,.int .i64 0] 59).2.1
 have HLW:=Lib.hid (rows_two w #[.int .i64 T,.int .i64 R,.int .i64 K,.string key,.string ⟨#[]⟩,.int .i64 0] #[.int .i64 0,.int .i64 0,.int .i64 0,.string ⟨#[]⟩,.string ⟨#[]⟩,.int .i64 0] 59).2.2.1
 have HBW:=Lib.hid (rows_two w #[.int .i64 T,.int .i64 R,.int .i64 K,.string key,.string ⟨#[]⟩,.int .i64 0] #[.int .i64 0,.int .i64 0,.int .i64 0,.string ⟨#[]⟩,.string ⟨#[]⟩,.int .i64 0] 59).2.2.2
 obtain ⟨E,hE⟩:∃ E,wriE T R K key ⟨#[]⟩ 0=E:=⟨_,rfl⟩
 rw [hE]
 have rB6:=(hb5.block _ (Nat.lt_of_succ_lt HLW.out)).trans HRB.out
 have rZ6:=(hb5.block _ HLW.out).trans HRZ.out
 have HB6:=Lib.hid (HBW.out.trans (hb5.mono HBW.out.size))
 have HRB6:=Lib.hid rB6
 have HRZ6:=Lib.hid rZ6
 have HE6:=Lib.hid hE
 clear hb5 rB6 rZ6 hE
 by_cases h0:E=0
 · subst h0
   have HI:=Lib.hid (wr_sized (.int .i64 T) (.int .i64 R) (.int .i64 K) (.string key) (.string ⟨#[]⟩) (.int .i64 0))
   have HRZ9:=Lib.hid (row_set HRZ6.out #[.int .i64 T,.int .i64 R,.int .i64 K,.string key,.string ⟨#[]⟩,.int .i64 0])
   have HONE:=Lib.hid (wr_ones T R K key ⟨#[]⟩ 0)
   have HSAME:=Lib.hid (wr_same T R K key ⟨#[]⟩ 0)
   have HOUT:=Lib.hid (fillOut_ok (ev:=evI) (R:=R) HN.out HV.out HE6.out)
   rw [show ((0:Nat):Int)=0 from rfl]
   go_wp2_with (first
     | (with_reducible refine wpList_load_row rfl _ _ rfl _ rfl _ _ _ _ HRB6.out Tryz.underlying59 rfl HI.out ?_)
     | (with_reducible refine wpList_store_row rfl _ _ _ rfl _ _ rfl rfl _ _ HRZ6.out HI.out HSAME.out HONE.out ?_))
   obtain ⟨c0,c1,c2,c3,c4,c5⟩:=row_at HRZ9.out
   refine bodyPost_ret (v:=.tuple #[.agg #[.int .i64 T,.int .i64 R,.int .i64 K,.string key,.string ⟨#[]⟩,.int .i64 0],.int .i64 0,.int .i64 0]) (by simp [results,Tryz.results80,go_sem,c0,c1,c2,c3,c4,c5]) rfl ?_
   exact ⟨⟨_,rfl,HOUT.out⟩,below_row HB6.out (Nat.le_succ _) _⟩
 · have HR:=Lib.hid (fillOut_bad (ev:=evI) (T:=T) (R:=R) (key:=key) ((fillE_w (T:=T) (R:=R) (key:=key) HN.out HV.out).trans HE6.out) h0)
   have hne:((E:Int) != 0)=true:=by simp;omega
   obtain ⟨c0,c1,c2,c3,c4,c5⟩:=row_at HRZ6.out
   obtain ⟨f0,f1,f2,f3,f4,f5⟩:=free_row HRZ6.out
   go_wp2
   refine bodyPost_ret (v:=.tuple #[zeroW,.int .i64 0,.int .i64 E]) (by simp [results,Tryz.results80,go_sem,zeroW,c0,c1,c2,c3,c4,c5]) rfl ?_
   exact ⟨⟨_,rfl,HR.out⟩,below_six HB6.out (Nat.le_succ _) _ _ _ _ _ _⟩
set_option maxRecDepth 100000 in
set_option maxHeartbeats 8000000 in
theorem rfill_put (T R:Int) (key val:ByteArray) (N:Int) (s:ByteArray) (w:World) (hk:key.size≤140737488351232) (hs:s.size≤140737488351232) :
   Calls Tryz.prog 80 #[.agg #[.int .i64 T,.int .i64 R,.int .i64 1,.string key,.string val,.int .i64 N],.string s] w fun e w'=>(∃ r,e=.returned r∧FillOut evI T R 1 key s.data.toList r)∧Below w.heap.size w w':=by
 have HN:Hid (getN 1 s.data.toList=(0,0,0)):=Lib.hid rfl
 obtain ⟨v,j,e,hv⟩:∃ v j e,getV 1 (s.data.toList.drop 0)=(v,j,e):=⟨_,_,_,rfl⟩
 have hg:getS s.data.toList=(v,j,e):=hv
 have hle:=getV_le 1 (s.data.toList.drop 0)
 rw [hv,List.drop_zero,←size_data] at hle
 simp only at hle
 have HV:=Lib.hid hv
 have HG:=Lib.hid hg
 have HLE:=Lib.hid hle
 clear hv hg hle
 go_enter Tryz.func80,Tryz.ntmps80
 go_wp2_with fail
 refine (runspan_any s _ hs).mono ?_
 rintro r w1 ⟨rfl,rfl⟩
 rw [HG.out]
 unfold spanR
 by_cases he:e=0
 · subst he
   have d1:(0:Int)≤(j:Int):=by omega
   have d2:(j:Int)≤(s.size:Int):=by have:=HLE.out.2;omega
   rw [show ((0:Nat):Int)=0 from rfl]
   go_wp2
   go_region
   obtain ⟨U,hU⟩:∃ U,s.extract j s.size=U:=⟨_,rfl⟩
   have hus:U.size=s.size - j:=by rw [←hU,ByteArray.size_extract];omega
   rw [hU]
   have HUS:=Lib.hid hus
   have hub:U.size≤140737488351232:=by omega
   clear hU hus
   go_wp2_with fail
   have hvl:(⟨v.toArray⟩:ByteArray).size≤140737488351232:=by rw [bs_size];have:=HLE.out.1;omega
   refine (rwright_any T R 1 key ⟨v.toArray⟩ 0 _ hk hvl).mono ?_
   rintro r w1 ⟨rfl,hb5⟩
   have HRB:=Lib.hid (rows_two w #[.int .i64 T,.int .i64 R,.int .i64 1,.string key,.string ⟨v.toArray⟩,.int .i64 0] #[.int .i64 0,.int .i64 0,.int .i64 0,.string ⟨#[]⟩,.string ⟨#[]⟩,.int .i64 0] 59).1
   have HRZ:=Lib.hid (rows_two w #[.int .i64 T,.int .i64 R,.int .i64 1,.string key,.string ⟨v.toArray⟩,.int .i64 0] #[.int .i64 0,.int .i64 0,.int .i64 0,.string ⟨#[]⟩,.string ⟨#[]⟩,.int .i64 0] 59).2.1
   have HLW:=Lib.hid (rows_two w #[.int .i64 T,.int .i64 R,.int .i64 1,.string key,.string ⟨v.toArray⟩,.int .i64 0] #[.int .i64 0,.int .i64 0,.int .i64 0,.string ⟨#[]⟩,.string ⟨#[]⟩,.int .i64 0] 59).2.2.1
   have HBW:=Lib.hid (rows_two w #[.int .i64 T,.int .i64 R,.int .i64 1,.string key,.string ⟨v.toArray⟩,.int .i64 0] #[.int .i64 0,.int .i64 0,.int .i64 0,.string ⟨#[]⟩,.string ⟨#[]⟩,.int .i64 0] 59).2.2.2.drew
   obtain ⟨E,hE⟩:∃ E,wriE T R 1 key ⟨v.toArray⟩ 0=E:=⟨_,rfl⟩
   rw [hE]
   have rB6:=(hb5.block _ (Nat.lt_of_succ_lt HLW.out)).trans HRB.out
   have rZ6:=(hb5.block _ HLW.out).trans HRZ.out
   have HB6:=Lib.hid (HBW.out.trans (hb5.mono HBW.out.size))
   have HRB6:=Lib.hid rB6
   have HRZ6:=Lib.hid rZ6
   have HE6:=Lib.hid hE
   clear hb5 rB6 rZ6 hE
   by_cases h0:E=0
   · subst h0
     have HI:=Lib.hid (wr_sized (.int .i64 T) (.int .i64 R) (.int .i64 1) (.string key) (.string ⟨v.toArray⟩) (.int .i64 0))
     have HRZ9:=Lib.hid (row_set HRZ6.out #[.int .i64 T,.int .i64 R,.int .i64 1,.string key,.string ⟨v.toArray⟩,.int .i64 0])
     have HONE:=Lib.hid (wr_ones T R 1 key ⟨v.toArray⟩ 0)
     have HSAME:=Lib.hid (wr_same T R 1 key ⟨v.toArray⟩ 0)
     have HOUT:=Lib.hid (fillOut_ok (ev:=evI) (R:=R) HN.out HV.out HE6.out)
     rw [show ((0:Nat):Int)=0 from rfl]
     go_wp2_with (first
       | (with_reducible refine wpList_load_row rfl _ _ rfl _ rfl _ _ _ _ HRB6.out Tryz.underlying59 rfl HI.out ?_)
       | (with_reducible refine wpList_store_row rfl _ _ _ rfl _ _ rfl rfl _ _ HRZ6.out HI.out HSAME.out HONE.out ?_))
     have hsz:(s.size:Int) - (U.size:Int)=((0 + j:Nat):Int):=by have h1:=HUS.out;have h2:=HLE.out.2;omega
     rw [hsz]
     obtain ⟨c0,c1,c2,c3,c4,c5⟩:=row_at HRZ9.out
     refine bodyPost_ret (v:=.tuple #[.agg #[.int .i64 T,.int .i64 R,.int .i64 1,.string key,.string ⟨v.toArray⟩,.int .i64 0],.int .i64 ((0 + j:Nat):Int),.int .i64 0]) (by simp [results,Tryz.results80,go_sem,c0,c1,c2,c3,c4,c5]) rfl ?_
     exact ⟨⟨_,rfl,HOUT.out⟩,below_row HB6.out (Nat.le_succ _) _⟩
   · have HR:=Lib.hid (fillOut_bad (ev:=evI) (T:=T) (R:=R) (key:=key) ((fillE_w (T:=T) (R:=R) (key:=key) HN.out HV.out).trans HE6.out) h0)
     have hne:((E:Int) != 0)=true:=by simp;omega
     obtain ⟨c0,c1,c2,c3,c4,c5⟩:=row_at HRZ6.out
     obtain ⟨f0,f1,f2,f3,f4,f5⟩:=free_row HRZ6.out
     go_wp2
     refine bodyPost_ret (v:=.tuple #[zeroW,.int .i64 0,.int .i64 E]) (by simp [results,Tryz.results80,go_sem,zeroW,c0,c1,c2,c3,c4,c5]) rfl ?_
     exact ⟨⟨_,rfl,HR.out⟩,below_six HB6.out (Nat.le_succ _) _ _ _ _ _ _⟩
 · have HR:=Lib.hid (fillOut_bad (ev:=evI) (T:=T) (R:=R) (key:=key) (fillE_v HN.out HV.out he) he)
   have hne:((e:Int) != 0)=true:=by simp;omega
   go_wp2
   refine bodyPost_ret (v:=.tuple #[zeroW,.int .i64 0,.int .i64 e]) (by simp [results,Tryz.results80,go_sem,zeroW]) rfl ?_
   exact ⟨⟨_,rfl,HR.out⟩,((Below.refl _ _).alloc (Nat.le_refl _) _).alloc (by simp) _⟩
set_option maxRecDepth 100000 in
set_option maxHeartbeats 8000000 in
theorem rfill_add (T R:Int) (key val:ByteArray) (N:Int) (s:ByteArray) (w:World) (hk:key.size≤140737488351232) (hs:s.size≤140737488351232) :
   Calls Tryz.prog 80 #[.agg #[.int .i64 T,.int .i64 R,.int .i64 3,.string key,.string val,.int .i64 N],.string s] w fun e w'=>(∃ r,e=.returned r∧FillOut evI T R 3 key s.data.toList r)∧Below w.heap.size w w':=by
 have hs2:s.size≤maxLen:=by unfold maxLen;omega
 obtain ⟨m,k,e,hg⟩:∃ m k e,getL s.data.toList=(m,k,e):=⟨_,_,_,rfl⟩
 obtain ⟨n,hn⟩:∃ n,zagN m=n:=⟨_,rfl⟩
 have hN:getN 3 s.data.toList=(n,k,e):=by unfold getN;rw [if_pos rfl,hg,←hn]
 have hle:=getN_le 3 s.data.toList
 rw [hN,←size_data] at hle
 simp only at hle
 have hm:m≤18446744073709551615:=by
   rcases getL_cases s.data.toList with ⟨e',h,_⟩ | ⟨m',k',h,h2,_⟩
   · rw [hg] at h;simp only [Prod.mk.injEq] at h;omega
   · rw [hg] at h;simp only [Prod.mk.injEq] at h;omega
 have HN:=Lib.hid hN
 have HG:=Lib.hid hg
 have HZ:=Lib.hid hn
 have HLE:=Lib.hid hle
 have HV:Hid (getV 3 (s.data.toList.drop k)=([],0,0)):=Lib.hid rfl
 clear hN hg hle hn
 go_enter Tryz.func80,Tryz.ntmps80
 go_wp2_with fail
 refine (unvary_any s _ hs2).mono ?_
 rintro r w1 ⟨rfl,rfl⟩
 rw [HG.out]
 unfold numR
 by_cases he:e=0
 · subst he
   have d1:(0:Int)≤(k:Int):=by omega
   have d2:(k:Int)≤(s.size:Int):=by have:=HLE.out.1;omega
   have m0:(0:Int)≤(m:Int):=by omega
   have m1:(m:Int)≤18446744073709551615:=by omega
   rw [show ((0:Nat):Int)=0 from rfl]
   go_wp2
   go_region_held3 (fun w'=>True) (trivial) (first | (go_at_call 130;((with_reducible refine (zagr_any (m:Int) _ m0 m1).mono ?_);rintro r w' ⟨rfl,rfl⟩;rw [HZ.out])) | fail)
   obtain ⟨U,hU⟩:∃ U,s.extract k s.size=U:=⟨_,rfl⟩
   have hus:U.size=s.size - k:=by rw [←hU,ByteArray.size_extract];omega
   rw [hU]
   have HUS:=Lib.hid hus
   have hub:U.size≤140737488351232:=by omega
   clear hU hus
   go_wp2_with fail
   refine (rwright_any T R 3 key ⟨#[]⟩ n _ hk (Nat.zero_le _)).mono ?_
   rintro r w1 ⟨rfl,hb5⟩
   have HRB:=Lib.hid (rows_two w #[.int .i64 T,.int .i64 R,.int .i64 3,.string key,.string ⟨#[]⟩,.int .i64 n] #[.int .i64 0,.int .i64 0,.int .i64 0,.string ⟨#[]⟩,.string ⟨#[]⟩,.int .i64 0] 59).1
   have HRZ:=Lib.hid (rows_two w #[.int .i64 T,.int .i64 R,.int .i64 3,.string key,.string ⟨#[]⟩,.int .i64 n] #[.int .i64 0,.int .i64 0,.int .i64 0,.string ⟨#[]⟩,.string ⟨#[]⟩,.int .i64 0] 59).2.1
   have HLW:=Lib.hid (rows_two w #[.int .i64 T,.int .i64 R,.int .i64 3,.string key,.string ⟨#[]⟩,.int .i64 n] #[.int .i64 0,.int .i64 0,.int .i64 0,.string ⟨#[]⟩,.string ⟨#[]⟩,.int .i64 0] 59).2.2.1
   have HBW:=Lib.hid (rows_two w #[.int .i64 T,.int .i64 R,.int .i64 3,.string key,.string ⟨#[]⟩,.int .i64 n] #[.int .i64 0,.int .i64 0,.int .i64 0,.string ⟨#[]⟩,.string ⟨#[]⟩,.int .i64 0] 59).2.2.2.drew
   obtain ⟨E,hE⟩:∃ E,wriE T R 3 key ⟨#[]⟩ n=E:=⟨_,rfl⟩
   rw [hE]
   have rB6:=(hb5.block _ (Nat.lt_of_succ_lt HLW.out)).trans HRB.out
   have rZ6:=(hb5.block _ HLW.out).trans HRZ.out
   have HB6:=Lib.hid (HBW.out.trans (hb5.mono HBW.out.size))
   have HRB6:=Lib.hid rB6
   have HRZ6:=Lib.hid rZ6
   have HE6:=Lib.hid hE
   clear hb5 rB6 rZ6 hE
   by_cases h0:E=0
   · subst h0
     have HI:=Lib.hid (wr_sized (.int .i64 T) (.int .i64 R) (.int .i64 3) (.string key) (.string ⟨#[]⟩) (.int .i64 n))
     have HRZ9:=Lib.hid (row_set HRZ6.out #[.int .i64 T,.int .i64 R,.int .i64 3,.string key,.string ⟨#[]⟩,.int .i64 n])
     have HONE:=Lib.hid (wr_ones T R 3 key ⟨#[]⟩ n)
     have HSAME:=Lib.hid (wr_same T R 3 key ⟨#[]⟩ n)
     have HOUT:=Lib.hid (fillOut_ok (ev:=evI) (R:=R) HN.out HV.out HE6.out)
     rw [show ((0:Nat):Int)=0 from rfl]
     go_wp2_with (first
       | (with_reducible refine wpList_load_row rfl _ _ rfl _ rfl _ _ _ _ HRB6.out Tryz.underlying59 rfl HI.out ?_)
       | (with_reducible refine wpList_store_row rfl _ _ _ rfl _ _ rfl rfl _ _ HRZ6.out HI.out HSAME.out HONE.out ?_))
     have hsz:(s.size:Int) - (U.size:Int)=((k + 0:Nat):Int):=by have h1:=HUS.out;have h2:=HLE.out.1;omega
     rw [hsz]
     obtain ⟨c0,c1,c2,c3,c4,c5⟩:=row_at HRZ9.out
     refine bodyPost_ret (v:=.tuple #[.agg #[.int .i64 T,.int .i64 R,.int .i64 3,.string key,.string ⟨#[]⟩,.int .i64 n],.int .i64 ((k + 0:Nat):Int),.int .i64 0]) (by simp [results,Tryz.results80,go_sem,c0,c1,c2,c3,c4,c5]) rfl ?_
     exact ⟨⟨_,rfl,HOUT.out⟩,below_row HB6.out (Nat.le_succ _) _⟩
   · have HR:=Lib.hid (fillOut_bad (ev:=evI) (T:=T) (R:=R) (key:=key) ((fillE_w (T:=T) (R:=R) (key:=key) HN.out HV.out).trans HE6.out) h0)
     have hne:((E:Int) != 0)=true:=by simp;omega
     obtain ⟨c0,c1,c2,c3,c4,c5⟩:=row_at HRZ6.out
     obtain ⟨f0,f1,f2,f3,f4,f5⟩:=free_row HRZ6.out
     go_wp2
     refine bodyPost_ret (v:=.tuple #[zeroW,.int .i64 0,.int .i64 E]) (by simp [results,Tryz.results80,go_sem,zeroW,c0,c1,c2,c3,c4,c5]) rfl ?_
     exact ⟨⟨_,rfl,HR.out⟩,below_six HB6.out (Nat.le_succ _) _ _ _ _ _ _⟩
 · have HR:=Lib.hid (fillOut_bad (ev:=evI) (T:=T) (R:=R) (key:=key) (fillE_n HN.out he) he)
   have hne:((e:Int) != 0)=true:=by simp;omega
   go_wp2
   refine bodyPost_ret (v:=.tuple #[zeroW,.int .i64 0,.int .i64 e]) (by simp [results,Tryz.results80,go_sem,zeroW]) rfl ?_
   exact ⟨⟨_,rfl,HR.out⟩,((Below.refl _ _).alloc (Nat.le_refl _) _).alloc (by simp) _⟩
set_option maxRecDepth 100000 in
set_option maxHeartbeats 8000000 in
theorem rfill_ins (T R:Int) (key val:ByteArray) (N:Int) (s:ByteArray) (w:World) (hk:key.size≤140737488351232) (hs:s.size≤140737488351232) :
   Calls Tryz.prog 80 #[.agg #[.int .i64 T,.int .i64 R,.int .i64 4,.string key,.string val,.int .i64 N],.string s] w fun e w'=>(∃ r,e=.returned r∧FillOut evI T R 4 key s.data.toList r)∧Below w.heap.size w w':=by
 have hs2:s.size≤maxLen:=by unfold maxLen;omega
 obtain ⟨m,k,e,hg⟩:∃ m k e,intL s.data.toList 1000=(m,k,e):=⟨_,_,_,rfl⟩
 have hN:getN 4 s.data.toList=((m:Int),k,e):=by unfold getN;rw [if_neg (by decide),if_pos rfl,hg]
 have hle:=getN_le 4 s.data.toList
 rw [hN,←size_data] at hle
 simp only at hle
 have HN:=Lib.hid hN
 have HG:=Lib.hid hg
 have HLE:=Lib.hid hle
 obtain ⟨n,hn⟩:∃ n:Int,(m:Int)=n:=⟨_,rfl⟩
 rw [hn] at HN
 clear hN hg hle
 go_enter Tryz.func80,Tryz.ntmps80
 go_wp2_with fail
 refine (rint_any s 1000 _ hs2 (by decide) (by decide)).mono ?_
 rintro r w1 ⟨rfl,rfl⟩
 rw [HG.out]
 unfold intR
 simp only
 rw [hn]
 clear hn
 by_cases he:e=0
 · subst he
   obtain ⟨v,j,e,hv⟩:∃ v j e,getV 4 (s.data.toList.drop k)=(v,j,e):=⟨_,_,_,rfl⟩
   have hvl:=getV_le 4 (s.data.toList.drop k)
   rw [hv,List.length_drop,←size_data] at hvl
   simp only at hvl
   have HVL:=Lib.hid hvl
   have d1:(0:Int)≤(k:Int):=by omega
   have d2:(k:Int)≤(s.size:Int):=by have:=HLE.out.1;omega
   rw [show ((0:Nat):Int)=0 from rfl]
   go_wp2
   go_region
   obtain ⟨U,hU⟩:∃ U,s.extract k s.size=U:=⟨_,rfl⟩
   have hus:U.size=s.size - k:=by rw [←hU,ByteArray.size_extract];omega
   have hud:U.data.toList=s.data.toList.drop k:=by rw [←hU,ext_data,List.take_of_length_le (by rw [←size_data];exact Nat.le_refl _)]
   rw [hU]
   have HUS:=Lib.hid hus
   have hub:U.size≤140737488351232:=by omega
   have HG2:Hid (getS U.data.toList=(v,j,e)):=Lib.hid (by rw [hud];exact hv)
   have HV:=Lib.hid hv
   clear hU hus hud hv hvl
   go_wp2_with fail
   refine (runspan_any U _ hub).mono ?_
   rintro r w1 ⟨rfl,rfl⟩
   rw [HG2.out]
   unfold spanR
   by_cases he:e=0
   · subst he
     have d3:(0:Int)≤(j:Int):=by omega
     have d4:(j:Int)≤(U.size:Int):=by have:=HVL.out.2;have:=HUS.out;omega
     rw [show ((0:Nat):Int)=0 from rfl]
     go_wp2
     go_region
     obtain ⟨Y,hY⟩:∃ Y,U.extract j U.size=Y:=⟨_,rfl⟩
     have hys:Y.size=U.size - j:=by rw [←hY,ByteArray.size_extract];omega
     rw [hY]
     have HYS:=Lib.hid hys
     have hyb:Y.size≤140737488351232:=by omega
     clear hY hys
     go_wp2_with fail
     have hvl:(⟨v.toArray⟩:ByteArray).size≤140737488351232:=by rw [bs_size];have:=HVL.out.1;omega
     refine (rwright_any T R 4 key ⟨v.toArray⟩ n _ hk hvl).mono ?_
     rintro r w1 ⟨rfl,hb5⟩
     have HRB:=Lib.hid (rows_two w #[.int .i64 T,.int .i64 R,.int .i64 4,.string key,.string ⟨v.toArray⟩,.int .i64 n] #[.int .i64 0,.int .i64 0,.int .i64 0,.string ⟨#[]⟩,.string ⟨#[]⟩,.int .i64 0] 59).1
     have HRZ:=Lib.hid (rows_two w #[.int .i64 T,.int .i64 R,.int .i64 4,.string key,.string ⟨v.toArray⟩,.int .i64 n] #[.int .i64 0,.int .i64 0,.int .i64 0,.string ⟨#[]⟩,.string ⟨#[]⟩,.int .i64 0] 59).2.1
     have HLW:=Lib.hid (rows_two w #[.int .i64 T,.int .i64 R,.int .i64 4,.string key,.string ⟨v.toArray⟩,.int .i64 n] #[.int .i64 0,.int .i64 0,.int .i64 0,.string ⟨#[]⟩,.string ⟨#[]⟩,.int .i64 0] 59).2.2.1
     have HBW:=Lib.hid (rows_two w #[.int .i64 T,.int .i64 R,.int .i64 4,.string key,.string ⟨v.toArray⟩,.int .i64 n] #[.int .i64 0,.int .i64 0,.int .i64 0,.string ⟨#[]⟩,.string ⟨#[]⟩,.int .i64 0] 59).2.2.2.drew.drew
     obtain ⟨E,hE⟩:∃ E,wriE T R 4 key ⟨v.toArray⟩ n=E:=⟨_,rfl⟩
     rw [hE]
     have rB6:=(hb5.block _ (Nat.lt_of_succ_lt HLW.out)).trans HRB.out
     have rZ6:=(hb5.block _ HLW.out).trans HRZ.out
     have HB6:=Lib.hid (HBW.out.trans (hb5.mono HBW.out.size))
     have HRB6:=Lib.hid rB6
     have HRZ6:=Lib.hid rZ6
     have HE6:=Lib.hid hE
     clear hb5 rB6 rZ6 hE
     by_cases h0:E=0
     · subst h0
       have HI:=Lib.hid (wr_sized (.int .i64 T) (.int .i64 R) (.int .i64 4) (.string key) (.string ⟨v.toArray⟩) (.int .i64 n))
       have HRZ9:=Lib.hid (row_set HRZ6.out #[.int .i64 T,.int .i64 R,.int .i64 4,.string key,.string ⟨v.toArray⟩,.int .i64 n])
       have HONE:=Lib.hid (wr_ones T R 4 key ⟨v.toArray⟩ n)
       have HSAME:=Lib.hid (wr_same T R 4 key ⟨v.toArray⟩ n)
       have HOUT:=Lib.hid (fillOut_ok (ev:=evI) (R:=R) HN.out HV.out HE6.out)
       rw [show ((0:Nat):Int)=0 from rfl]
       go_wp2_with (first
         | (with_reducible refine wpList_load_row rfl _ _ rfl _ rfl _ _ _ _ HRB6.out Tryz.underlying59 rfl HI.out ?_)
         | (with_reducible refine wpList_store_row rfl _ _ _ rfl _ _ rfl rfl _ _ HRZ6.out HI.out HSAME.out HONE.out ?_))
       have hsz:(s.size:Int) - (Y.size:Int)=((k + j:Nat):Int):=by have h1:=HUS.out;have h2:=HLE.out.1;have h3:=HYS.out;have h4:=HVL.out.2;omega
       rw [hsz]
       obtain ⟨c0,c1,c2,c3,c4,c5⟩:=row_at HRZ9.out
       refine bodyPost_ret (v:=.tuple #[.agg #[.int .i64 T,.int .i64 R,.int .i64 4,.string key,.string ⟨v.toArray⟩,.int .i64 n],.int .i64 ((k + j:Nat):Int),.int .i64 0]) (by simp [results,Tryz.results80,go_sem,c0,c1,c2,c3,c4,c5]) rfl ?_
       exact ⟨⟨_,rfl,HOUT.out⟩,below_row HB6.out (Nat.le_succ _) _⟩
     · have HR:=Lib.hid (fillOut_bad (ev:=evI) (T:=T) (R:=R) (key:=key) ((fillE_w (T:=T) (R:=R) (key:=key) HN.out HV.out).trans HE6.out) h0)
       have hne:((E:Int) != 0)=true:=by simp;omega
       obtain ⟨c0,c1,c2,c3,c4,c5⟩:=row_at HRZ6.out
       obtain ⟨f0,f1,f2,f3,f4,f5⟩:=free_row HRZ6.out
       go_wp2
       refine bodyPost_ret (v:=.tuple #[zeroW,.int .i64 0,.int .i64 E]) (by simp [results,Tryz.results80,go_sem,zeroW,c0,c1,c2,c3,c4,c5]) rfl ?_
       exact ⟨⟨_,rfl,HR.out⟩,below_six HB6.out (Nat.le_succ _) _ _ _ _ _ _⟩
   · have HR:=Lib.hid (fillOut_bad (ev:=evI) (T:=T) (R:=R) (key:=key) (fillE_v HN.out HV.out he) he)
     have hne:((e:Int) != 0)=true:=by simp;omega
     go_wp2
     refine bodyPost_ret (v:=.tuple #[zeroW,.int .i64 0,.int .i64 e]) (by simp [results,Tryz.results80,go_sem,zeroW]) rfl ?_
     exact ⟨⟨_,rfl,HR.out⟩,(((Below.refl _ _).alloc (Nat.le_refl _) _).alloc (by simp) _).drew⟩
 · have HR:=Lib.hid (fillOut_bad (ev:=evI) (T:=T) (R:=R) (key:=key) (fillE_n HN.out he) he)
   have hne:((e:Int) != 0)=true:=by simp;omega
   go_wp2
   refine bodyPost_ret (v:=.tuple #[zeroW,.int .i64 0,.int .i64 e]) (by simp [results,Tryz.results80,go_sem,zeroW]) rfl ?_
   exact ⟨⟨_,rfl,HR.out⟩,((Below.refl _ _).alloc (Nat.le_refl _) _).alloc (by simp) _⟩
theorem rfill_any (T R K:Int) (key val:ByteArray) (N:Int) (s:ByteArray) (w:World) (hk:key.size≤140737488351232) (hs:s.size≤140737488351232) :
   Calls Tryz.prog 80 #[.agg #[.int .i64 T,.int .i64 R,.int .i64 K,.string key,.string val,.int .i64 N],.string s] w fun e w'=>(∃ r,e=.returned r∧FillOut evI T R K key s.data.toList r)∧Below w.heap.size w w':=by
 by_cases h1:K=1
 · subst h1;exact rfill_put T R key val N s w hk hs
 · by_cases h3:K=3
   · subst h3;exact rfill_add T R key val N s w hk hs
   · by_cases h4:K=4
     · subst h4;exact rfill_ins T R key val N s w hk hs
     · exact rfill_none T R K key val N s w hk h1 h3 h4
end Go.Proofs.YtjkbmfpomgcblaaGreatDoor
namespace Go.Proofs.YtjkbmfpomgcblaaGreatDoor
open Go.RowKit
def VReadIs (w:World) (s:List UInt8) (e:Ending) (w':World):Prop :=
 ∃ v,e=.returned (.tuple #[v,.int .i64 ((vreadF s).2.1:Nat),noV (vreadF s).1])∧ownsE w' w.heap.size v (vreadF s).2.2∧Below w.heap.size w w'
theorem vread_is_bad {w:World} {s:List UInt8} {e:Nat} (h:vreadF s=(e,0,[])) (he:e≠0) (w':World) (hb:Below w.heap.size w w'):VReadIs w s (.returned (.tuple #[.slice none 0 0,.int .i64 0,.iface 44 (.int .i64 (e:Nat))])) w':=by
 refine ⟨.slice none 0 0,?_,?_,hb⟩
 · rw [h];simp only;rw [noV_e he];rfl
 · rw [h];exact ownsE_nil _ _
theorem vread_is_ok {w:World} {s:List UInt8} {n:Nat} {l:List Ent} (h:vreadF s=(0,n,l)) (v:Value) (w':World) (ho:ownsE w' w.heap.size v l) (hb:Below w.heap.size w w'):VReadIs w s (.returned (.tuple #[v,.int .i64 (n:Nat),.nilIface])) w':=by
 refine ⟨v,?_,?_,hb⟩
 · rw [h];rfl
 · rw [h];exact ho
theorem vgetR_bad {w:World} {x:Nat ⊕ (List Ent×Nat)} {er:Nat} (h:x=.inl er) {e:Ending} {w':World} (hg:VGetIs w x e w'):e=.returned (.tuple #[.slice none 0 0,.int .i64 0,.iface 44 (.int .i64 (er:Nat))])∧Below w.heap.size w w':=by
 rw [h] at hg;exact hg
theorem vgetR_good {w:World} {x:Nat ⊕ (List Ent×Nat)} {run:List Ent} {k:Nat} (h:x=.inr (run,k)) {e:Ending} {w':World} (hg:VGetIs w x e w'):∃ v,e=.returned (.tuple #[v,.int .i64 (k:Nat),.nilIface])∧ownsE w' w.heap.size v run∧Below w.heap.size w w':=by
 rw [h] at hg;exact hg
theorem getR_err {s:List UInt8} {used e:Nat} {least:Int} {acc:List Ent} (h:getR s used least acc=.inl e):e≠0:=by
 have htm:∀ (k:Nat) (s:List UInt8) (used:Nat) (r:Int) (acc:List Ent),tmA k s used r acc=.inl e→e≠0:=by
   intro k
   induction k with
   | zero=>intro s used r acc h;cases h
   | succ k ih =>
     intro s used r acc h
     rcases intL_cases s 1099511627776 with ⟨e',hi,he,_⟩ | ⟨t,j,hi,_⟩
     · rw [tmA_bad hi he] at h;injection h with h;subst h;exact he
     · rw [tmA_ok hi] at h;exact ih _ _ _ _ h
 rcases intL_cases s 200 with ⟨e',hi,he,_⟩ | ⟨g,j,hi,_⟩
 · rw [getR_gap hi he] at h;injection h with h;subst h;exact he
 · rcases intL_cases (s.drop j) 16 with ⟨e',hi2,he,_⟩ | ⟨c,i,hi2,_⟩
   · rw [getR_many hi hi2 he] at h;injection h with h;subst h;exact he
   · rw [getR_ok hi hi2] at h;exact htm _ _ _ _ _ h
theorem consec_bd {l:List Ent}:∀ {r:Int},consec r l→∀ e∈l,r≤e.rep∧e.rep < r + l.length:=by
 induction l with
 | nil=>intro r _ e h;cases h
 | cons d t ih =>
   intro r h e he
   rw [List.length_cons]
   rcases List.mem_cons.1 he with rfl | he
   · have:=h.1;omega
   · have:=ih h.2 e he;omega
set_option maxRecDepth 100000 in
set_option maxHeartbeats 4000000 in
theorem vread_any (s:ByteArray) (w:World) (hs:s.size≤1000000) (hg:errT w) :
   Calls Tryz.prog 157 #[.string s] w (VReadIs w s.data.toList):=by
 have HG:=Lib.hid hg
 have hsl:s.data.toList.length=s.size:=(size_data s).symm
 have HSL:=Lib.hid hsl
 have HM0:Hid (s.size≤maxLen):=Lib.hid (show s.size≤maxLen by unfold maxLen;omega)
 clear hsl hg
 rcases intL_cases s.data.toList 16 with ⟨e,hi,he,_⟩ | ⟨R,j,hi,hR,hj1,hj2,hj3,_⟩
 · have HI:=Lib.hid hi
   have HV:=Lib.hid (vread_few hi he)
   have HNE:=Lib.hid he
   clear hi he
   go_enter Tryz.func157,Tryz.ntmps157
   go_wp2_with fail
   refine (vint_bad _ 16 _ HM0.out (by decide) (by decide) e HI.out HNE.out).mono ?_
   rintro r w' ⟨rfl,rfl⟩
   go_wp2
   go_ret3
   exact vread_is_bad HV.out HNE.out _ (Below.refl _ _)
 · have HI:=Lib.hid hi
   rw [HSL.out] at hj3
   have hR16:R≤16:=by omega
   clear hi
   go_enter Tryz.func157,Tryz.ntmps157
   go_wp2_with fail
   refine (vint_ok _ 16 _ HM0.out (by decide) (by decide) R j HI.out).mono ?_
   rintro r w' ⟨rfl,rfl⟩
   go_wp2
   go_loopw [6,8,9,24] (fun av lv bv i wr=>∃ (k a:Nat) (least:Int) (acc:List Ent),k≤R∧i=.int .i64 k∧av=.int .i64 a∧a≤s.size∧bv=.int .i64 least∧0≤least∧least≤300 * (k:Int)∧acc.length≤17 * k∧rdA R (s.data.toList.drop j) j 0 []=rdA (R - k) (s.data.toList.drop a) a least acc∧ownsE wr w.heap.size lv acc∧Below w.heap.size w wr) (fun _ _ _ i _=>R - (intOf i).toNat)
   case atStart=>exact ⟨0,j,0,[],by omega,rfl,rfl,hj3,rfl,by omega,by omega,by simp,rfl,ownsE_nil _ _,Below.refl _ _⟩
   case round =>
     obtain ⟨k,a,least,acc,hk,rfl,rfl,has,rfl,hl0,hl3,hal,heq,ho,hb⟩:=hrel
     have HEQ:=Lib.hid heq
     have HO:=Lib.hid ho
     have HB:=Lib.hid hb
     have hzr:=hb.size
     have HAL:=Lib.hid hal
     have HE:=Lib.hid (ext_dropV s a)
     have hxs:(s.extract a s.size).size≤1000000:=by rw [ByteArray.size_extract];omega
     have HXS:=Lib.hid hxs
     have e3:(0:Int)≤(a:Int):=by omega
     have e4:(a:Int)≤(s.size:Int):=by omega
     clear heq ho hb hal hxs
     by_cases hlt:k < R
     · have hlt':(k:Int) < (R:Int):=by omega
       obtain ⟨c',hc'⟩:∃ c',R - k=c' + 1:=⟨R - k - 1,by omega⟩
       match hgr:getR (s.data.toList.drop a) 0 least [] with
       | .inl e =>
         have HGR:Hid (getR (s.extract a s.size).data.toList 0 least []=.inl e):=Lib.hid (show getR (s.extract a s.size).data.toList 0 least []=.inl e by rw [HE.out];exact hgr)
         have HV:=Lib.hid (vread_bad HI.out (show rdA R (s.data.toList.drop j) j 0 []=.inl e by rw [HEQ.out,hc',rdA_bad hgr]))
         have HNE:=Lib.hid (getR_err hgr)
         clear hgr hc'
         go_wp2_with fail
         refine (vget_any (s.extract a s.size) least _ HXS.out hl0 (by omega)).mono ?_
         intro r w1 hgi
         obtain ⟨rfl,hb1⟩:=vgetR_bad HGR.out hgi
         have HB1:Hid (Below w.heap.size w w1):=HB.out.trans (hb1.mono hzr)
         clear hgi hb1
         go_wp2
         go_ret3
         exact vread_is_bad HV.out HNE.out _ HB1.out
       | .inr (run,i) =>
         have HGR:Hid (getR (s.extract a s.size).data.toList 0 least []=.inr (run,i)):=Lib.hid (show getR (s.extract a s.size).data.toList 0 least []=.inr (run,i) by rw [HE.out];exact hgr)
         obtain ⟨run',hr',g1,g2,g3,g4,g5,_,g6,_,_⟩:=getR_only hgr
         rw [List.nil_append] at hr'
         subst hr'
         rw [List.length_drop,HSL.out] at g6
         have hpos:0 < run.length:=List.length_pos_iff.2 g1
         have hlast:=consec_last g5 g1
         have hbd:=consec_bd g5
         have HRB:Hid (∀ e∈run,0≤e.rep∧e.rep≤1000000):=Lib.hid (show ∀ e∈run,0≤e.rep∧e.rep≤1000000 from fun e he=>by have:=hbd e he;omega)
         have HNIL:=Lib.hid g1
         obtain ⟨lr,hlr⟩:∃ x,(run.getLastD ⟨0,0⟩).rep=x:=⟨_,rfl⟩
         have HLR:=Lib.hid hlr
         have HST:Hid (rdA R (s.data.toList.drop j) j 0 []=rdA (R - (k + 1)) (s.data.toList.drop (a + i)) (a + i) (lr + 2) (acc ++ run)):=Lib.hid (show rdA R (s.data.toList.drop j) j 0 []=rdA (R - (k + 1)) (s.data.toList.drop (a + i)) (a + i) (lr + 2) (acc ++ run) by
           rw [HEQ.out,hc',rdA_ok hgr,List.drop_drop,hlr,show R - (k + 1)=c' by omega])
         rw [hlr] at hlast
         have HLB:Hid (0≤lr + 2∧lr + 2≤300 * ((k + 1:Nat):Int)):=Lib.hid (show 0≤lr + 2∧lr + 2≤300 * ((k + 1:Nat):Int) by omega)
         have HRL:Hid (run.length≤17):=Lib.hid g2
         have HAI:Hid (a + i≤s.size):=Lib.hid (show a + i≤s.size by omega)
         have hib:(i:Int)≤1000000:=by omega
         clear hgr hc' g1 g2 g3 g4 g5 g6 hbd hlr hlast
         go_wp2_with fail
         refine (vget_any (s.extract a s.size) least _ HXS.out hl0 (by omega)).mono ?_
         intro r w1 hgi
         obtain ⟨v,rfl,how,hb1⟩:=vgetR_good HGR.out hgi
         have HOW:=Lib.hid how
         have HB1:Hid (Below w.heap.size w w1):=HB.out.trans (hb1.mono hzr)
         have HO1:=Lib.hid (HO.out.below hb1)
         have HZ:Hid (∀ x,Value.ownBlock u8=some x→x < wr.heap.size):=Lib.hid (fun x hx=>(HO.out.lt x hx).2)
         rcases how.form with ⟨_,hn⟩ | ⟨gB,cap,rfl,hgb,hgl,hcs⟩
         · rw [hn] at hpos;simp at hpos
         · have HCS:=Lib.hid hcs
           clear hgi hb1 how hcs
           go_wp2_with (at_builtin;refine wpList_append_ents rfl _ _ rfl w.heap.size _ acc rfl HO1.out gB 0 cap run.length rfl run rfl (fun j u hj=>by rw [Nat.zero_add];exact HCS.out j u hj) hpos ?c1 ?c2 ?_)
           case c1=>have:=HAL.out;have:=HRL.out;omega
           case c2=>have:=HB1.out.size;omega
           · intro g3 cap3 w3 ho3 hg3
             have HO3:=Lib.hid ho3
             have HB3:Hid (Below w.heap.size w w3):=HB1.out.grown hg3 HB1.out.size (fun k hk=>(HO1.out.lt k hk).1)
             have HRW:Hid (IsEnts w3 (.slice (some ⟨gB,0,none⟩) run.length cap) run):=Lib.hid (World.ownsRow.kept HOW.out hg3 (.inr (fun e=>by have:=HZ.out gB e.symm;omega)) |> fun h=>(show ownsE w3 wr.heap.size _ run from h).is)
             have HAL3:Hid ((acc ++ run).length≤17 * (k + 1)):=Lib.hid (show (acc ++ run).length≤17 * (k + 1) by have:=HAL.out;have:=HRL.out;rw [List.length_append];omega)
             obtain ⟨q,hq⟩:∃ q,run.length=q:=⟨_,rfl⟩
             rw [hq] at HRW hpos ⊢
             have HQ:=Lib.hid hq
             clear ho3 hg3 hq
             go_wp2_with fail
             refine (behind_any _ run _ HRW.out HNIL.out (by have:=HRL.out;omega) HRB.out).mono ?_
             rintro r w' ⟨rfl,rfl⟩
             rw [HLR.out]
             go_wp2
             go_roundw
             case rel=>exact ⟨k + 1,a + i,lr + 2,acc ++ run,by omega,by go_num,by go_num,HAI.out,rfl,HLB.out.1,HLB.out.2,HAL3.out,HST.out,by have h:=HO3.out;rw [HQ.out] at h;exact h,HB3.out⟩
             case measure=>simp [intOf];omega
     · have hkr:k=R:=by omega
       have HRR:Hid (rdA R (s.data.toList.drop j) j 0 []=.inr (acc,a)):=Lib.hid (show rdA R (s.data.toList.drop j) j 0 []=.inr (acc,a) by rw [HEQ.out,hkr,Nat.sub_self];rfl)
       have hlt':(R:Int)≤(k:Int):=by omega
       have hal9:acc.length≤9223372036854775807:=by have:=HAL.out;omega
       have HI9:=Lib.hid hal9
       clear hkr hal9
       by_cases h0:(vrightF acc).1=0
       · have HV:=Lib.hid (vread_ok HI.out HRR.out h0)
         have H0:=Lib.hid h0
         clear h0
         go_wp2_with fail
         refine (vbare_any _ acc _ HO.out.is HI9.out (HG.out.below HB.out)).mono ?_
         rintro r w1 ⟨rfl,hb1⟩
         rw [H0.out,noV_0]
         have HB1:Hid (Below w.heap.size w w1):=HB.out.trans (hb1.mono hzr)
         have HO1:=Lib.hid (HO.out.below hb1)
         clear hb1
         go_wp2
         go_ret3
         exact vread_is_ok HV.out _ _ HO1.out HB1.out
       · have HV:=Lib.hid (vread_wrong HI.out HRR.out h0)
         have HQ:=Lib.hid (noV_e h0)
         have H0:=Lib.hid h0
         clear h0
         go_wp2_with fail
         refine (vbare_any _ acc _ HO.out.is HI9.out (HG.out.below HB.out)).mono ?_
         rintro r w1 ⟨rfl,hb1⟩
         rw [HQ.out]
         have HB1:Hid (Below w.heap.size w w1):=HB.out.trans (hb1.mono hzr)
         clear hb1
         go_wp2
         go_ret3
         exact vread_is_bad HV.out H0.out _ HB1.out
end Go.Proofs.YtjkbmfpomgcblaaGreatDoor
