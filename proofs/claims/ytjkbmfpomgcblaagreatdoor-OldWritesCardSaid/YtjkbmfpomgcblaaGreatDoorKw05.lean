import Derived.Test.YtjkbmfpomgcblaaGreatDoorKw04
namespace Go.Proofs.YtjkbmfpomgcblaaGreatDoor
open Go.RowKit
theorem shr_cast' (n k:Nat):(n:Int) / 2 ^ k=((n / 2 ^ k:Nat):Int):=by simp
theorem low_eq {n:Nat} (hn:n < 4294967296) (y r:Nat) (hy:y < 256) :
   bits .xor .u32 (bits .and .u32 (n:Int) 1) (bits .and .u32 ((y:Int) / 2 ^ r % 4294967296) 1)=(((n ^^^ y / 2 ^ r % 2) % 2:Nat):Int):=by
 have h1:y / 2 ^ r < 256:=Nat.lt_of_le_of_lt (Nat.div_le_self _ _) hy
 have e1:(y:Int) / 2 ^ r % 4294967296=((y / 2 ^ r:Nat):Int):=by
   rw [shr_cast']
   generalize y / 2 ^ r=m at *
   omega
 rw [e1,and_one n hn,and_one _ (by omega),u32_xor_nat _ _ (by omega) (by omega)]
 congr 1
 have:=Nat.xor_mod_two_pow (a:=n) (b:=y / 2 ^ r % 2) (n:=1)
 simp only [Nat.pow_one] at this
 rw [this,Nat.mod_mod]
theorem st_bit (n b:Nat) (hb:b < 2):(n ^^^ b) / 2=n / 2:=by
 rw [Nat.xor_div_two,show b / 2=0 by omega,Nat.xor_zero]
theorem bit_yes {n:Nat} (hn:n < 4294967296) (y r:Nat) (hy:y < 256)
   (ht:(bits .xor .u32 (bits .and .u32 (n:Int) 1) (bits .and .u32 ((y:Int) / 2 ^ r % 4294967296) 1) == 1)=true) :
   bits .xor .u32 ((n:Int) / 2) 2197175160=(st (n ^^^ y / 2 ^ r % 2):Nat):=by
 rw [low_eq hn y r hy] at ht
 have h2:=eq_of_beq ht
 rw [st_odd (by omega),st_bit _ _ (Nat.mod_lt _ (by decide)),half_cast,show (2197175160:Int)=((2197175160:Nat):Int) from rfl,u32_xor_nat _ _ (by omega) (by omega)]
theorem bit_no {n:Nat} (hn:n < 4294967296) (y r:Nat) (hy:y < 256)
   (ht:(bits .xor .u32 (bits .and .u32 (n:Int) 1) (bits .and .u32 ((y:Int) / 2 ^ r % 4294967296) 1) == 1)=false) :
   (n:Int) / 2=(st (n ^^^ y / 2 ^ r % 2):Nat):=by
 rw [low_eq hn y r hy] at ht
 have h2:(n ^^^ y / 2 ^ r % 2) % 2≠1:=by intro e;rw [e] at ht;exact absurd ht (by decide)
 rw [st_even h2,st_bit _ _ (Nat.mod_lt _ (by decide)),half_cast]
theorem bs_at (s:ByteArray) (c k:Nat) (h:k / 8 < s.size):bs c (val s.data.toList) (k + 1)=st (bs c (val s.data.toList) k ^^^ s[k / 8].toNat / 2 ^ (k % 8) % 2):=by
 have:=val_bit s.data.toList (k / 8) (k % 8) (by simpa using h) (Nat.mod_lt _ (by decide))
 rw [show 8 * (k / 8) + k % 8=k by omega] at this
 rw [bs,this];rfl
set_option maxRecDepth 100000 in
set_option maxHeartbeats 1000000 in
theorem refcarry_any (x:Int) (s:ByteArray) (w:World) (h0:0≤x) (h1:x < 4294967296) (hs:s.size≤1000000) :
   Calls Tryz.prog 172 #[.int .u32 x,.string s] w fun e w'=>e=.returned (.int .u32 (run x.toNat s.data.toList:Nat))∧w=w':=by
 obtain ⟨c,rfl⟩:=Int.eq_ofNat_of_zero_le h0
 have hc:c < 4294967296:=by omega
 clear h0 h1
 go_enter Tryz.func172,Tryz.ntmps172
 go_wp2
 go_loop [0,5] (fun n i=>∃ k:Nat,k≤8 * s.size∧i=.int .i64 k∧n=.int .u32 (bs c (val s.data.toList) k:Nat)) (fun _ i=>8 * s.size - (intOf i).toNat)
 case atStart=>exact ⟨0,by omega,rfl,rfl⟩
 case round =>
   obtain ⟨k,hk,rfl,rfl⟩:=hrel
   have hb:=bs_lt (val s.data.toList) k hc
   by_cases hlt:k < 8 * s.size
   · have hj:k / 8 < s.size:=by omega
     have hj2:(k:Int) / 8 < (s.size:Int):=by omega
     have hj1:0≤(k:Int) / 8:=by omega
     have hr1:0≤(k:Int) % 8:=by omega
     have hr2:(k:Int) % 8 < 8:=by omega
     go_wp2
     · have ht:=bit_yes hb _ _ s[k / 8].toNat_lt (by assumption)
       go_round
       case rel=>exact ⟨k + 1,by omega,by go_num,by rw [ht,bs_at s c k hj]⟩
       case measure=>simp [intOf];omega
     · have ht:=bit_no hb _ _ s[k / 8].toNat_lt (by assumption)
       go_round
       case rel=>exact ⟨k + 1,by omega,by go_num,by rw [ht,bs_at s c k hj]⟩
       case measure=>simp [intOf];omega
   · obtain rfl:k=8 * s.size:=by omega
     go_wp2
     go_ret
     exact ⟨ret_u32 (by rw [←bs_run];simp),rfl⟩
set_option maxRecDepth 100000 in
set_option maxHeartbeats 400000 in
theorem refsum_any (s:ByteArray) (w:World) (hs:s.size≤1000000) :
   Calls Tryz.prog 120 #[.string s] w fun e w'=>e=.returned (.int .u32 (sum s.data.toList:Nat))∧w=w':=by
 go_enter Tryz.func120,Tryz.ntmps120
 go_wp2_with fail
 refine (refcarry_any _ _ _ (by omega) (by omega) hs).mono ?_
 rintro e w' ⟨rfl,rfl⟩
 go_wp2
 go_ret
 exact ⟨ret_u32 (not_u32 (run_lt _ (by decide))),rfl⟩
end Go.Proofs.YtjkbmfpomgcblaaGreatDoor
namespace Go.Proofs.YtjkbmfpomgcblaaGreatDoor
open Go.RowKit
def hasV (K:Int):Bool:=decide (K=1) || decide (K=4)
def hasN (K:Int):Bool:=decide (K=3) || decide (K=4)
def idOk (T R:Int):Bool:=decide (1≤T∧T≤1099511627776∧0≤R∧R≤200)
def fitsN (K N:Int):Bool:=if K=3 then decide (-1125899906842624≤N) && decide (N≤1125899906842624) else if K=4 then decide (0≤N) && decide (N≤1000) else true
def wriE (T R K:Int) (key val:ByteArray) (N:Int):Nat :=
 if K < 1∨4 < K then 1 else if idOk T R=false then 2 else if 40 < key.size∨300 < val.size then 4 else if (0 < val.size∧hasV K=false)∨(N≠0∧hasN K=false) then 3 else if fitsN K N=false then 2 else 0
theorem wriE_kind {T R K:Int} {key val:ByteArray} {N:Int} (h:K < 1∨4 < K):wriE T R K key val N=1:=if_pos h
theorem wriE_id {T R K:Int} {key val:ByteArray} {N:Int} (h:¬ (K < 1∨4 < K)) (h1:idOk T R=false):wriE T R K key val N=2:=by unfold wriE;rw [if_neg h,if_pos h1]
theorem wriE_size {T R K:Int} {key val:ByteArray} {N:Int} (h:¬ (K < 1∨4 < K)) (h1:idOk T R=true) (h2:40 < key.size∨300 < val.size):wriE T R K key val N=4:=by
 unfold wriE;rw [if_neg h,if_neg (by rw [h1];decide),if_pos h2]
theorem wriE_rest {T R K:Int} {key val:ByteArray} {N:Int} (h:¬ (K < 1∨4 < K)) (h1:idOk T R=true) (h2:¬ (40 < key.size∨300 < val.size)) :
   wriE T R K key val N=if ((decide (0 < val.size) && !hasV K) || (decide (N≠0) && !hasN K))=true then 3 else if fitsN K N=true then 0 else 2:=by
 unfold wriE
 rw [if_neg h,if_neg (by rw [h1];decide),if_neg h2]
 cases hasV K <;> cases hasN K <;> cases fitsN K N <;> simp
theorem empty_of {s:ByteArray} (h:¬ 0 < s.size):s=⟨#[]⟩:=by
 cases s with
 | mk d => have : d.size = 0 := by have h2 : ¬ 0 < d.size := h; omega
           rw [Array.eq_empty_of_size_eq_zero this]
theorem bne_empty {s:ByteArray} (h:0 < s.size):(s.toList != [])=true:=by
 rw [ByteArray.toList_eq,bne_iff_ne]
 intro e
 have:s.data.toList.length=0:=by rw [e];rfl
 have h2:s.data.toList.length=s.size:=Array.length_toList
 omega
theorem wriE_good {T R K:Int} {key val:ByteArray} {N:Int} (h:wriE T R K key val N=0) :
   ¬ (K < 1∨4 < K)∧idOk T R=true∧key.size≤40∧val.size≤300∧¬ ((0 < val.size∧hasV K=false)∨(N≠0∧hasN K=false))∧fitsN K N=true:=by
 unfold wriE at h
 split at h
 · simp at h
 · split at h
   · simp at h
   · split at h
     · simp at h
     · split at h
       · simp at h
       · split at h
         · simp at h
         · rename_i h1 h2 h3 h4 h5
           exact ⟨h1,by simpa using h2,by omega,by omega,h4,by simpa using h5⟩
end Go.Proofs.YtjkbmfpomgcblaaGreatDoor
namespace Go.Proofs.YtjkbmfpomgcblaaGreatDoor
open Go.RowKit
def lastB (T:List ByteArray) (s:ByteArray) (i:Nat):Int:=if idxB T s < i then (idxB T s:Int) else -1
theorem lastB_hit {T:List ByteArray} (hn:T.Nodup) {s:ByteArray} {i:Nat} (h:T[i]? = some s):lastB T s (i + 1)=i:=by
 unfold lastB;rw [idxB_at hn h,if_pos (by omega)]
theorem lastB_miss {T:List ByteArray} {s x:ByteArray} {i:Nat} (h:T[i]? = some x) (hx:x≠s):lastB T s (i + 1)=lastB T s i:=by
 unfold lastB
 by_cases hi:idxB T s < i
 · rw [if_pos hi,if_pos (by omega)]
 · rw [if_neg hi]
   by_cases hs:s∈T
   · have : idxB T s ≠ i := by
       intro e
       have:=idxB_get hs
       rw [e,h] at this
       exact hx (Option.some.inj this)
     rw [if_neg (by omega)]
   · have h1:=idxB_new hs
     have h2:=(List.getElem?_eq_some_iff.1 h).1
     rw [if_neg (by omega)]
theorem lastB_zero (T:List ByteArray) (s:ByteArray):lastB T s 0=-1:=by unfold lastB;rw [if_neg (by omega)]
theorem lastB_in {T:List ByteArray} {s:ByteArray} (h:s∈T):lastB T s T.length=idxB T s:=by unfold lastB;rw [if_pos (idxB_lt h)]
theorem lastB_new {T:List ByteArray} {s:ByteArray} (h:s ∉ T):lastB T s T.length=-1:=by unfold lastB;rw [idxB_new h,if_neg (by omega)]
set_option maxRecDepth 100000 in
set_option maxHeartbeats 4000000 in
theorem rtab_any (v:Value) (l:List ByteArray) (w:World) (hv:IsTexts w v l) (hl:l.length≤1000000) :
   Calls Tryz.prog 121 #[v] w (TabIs w l):=by
 obtain ⟨a1,c1,rfl,_,f1⟩:=hv
 have F1:=Lib.hid f1
 obtain ⟨n,hn⟩:∃ n,n=l.length:=⟨_,rfl⟩
 rw [←hn] at hl ⊢
 have HN:=Lib.hid hn
 clear f1 hn
 go_enter Tryz.func121,Tryz.ntmps121
 go_wp2
 go_loopw [4, 5, 12] (fun t a i wr => ∃ (k : Nat) (T : List ByteArray) (N : List Nat), k ≤ n ∧ i = .int .i64 k ∧ T.length ≤ k ∧ N.length = k ∧ T.Nodup ∧ tabK [] l = tabK T (l.drop k) ∧ atK [] l = N ++ atK T (l.drop k) ∧
     ownsS wr w.heap.size t T∧ownsN wr w.heap.size a N∧Below w.heap.size w wr) (fun _ _ i _=>n - (intOf i).toNat)
 case atStart=>exact ⟨0,[],[],Nat.zero_le _,rfl,Nat.le_refl _,rfl,List.nodup_nil,rfl,rfl,ownsS_nil _ _,ownsN_nil _ _,Below.refl _ _⟩
 case round =>
   obtain ⟨k,T,N,hk,rfl,hT,hN,hnd,ht,ha,hos,hon,hbel⟩:=hrel
   have HT:=Lib.hid ht
   have HA:=Lib.hid ha
   have HO:=Lib.hid hos
   have HQ:=Lib.hid hon
   have HB:=Lib.hid hbel
   have HNL:=Lib.hid hN
   have HTL:=Lib.hid hT
   have HND:=Lib.hid hnd
   obtain ⟨ad,cp,rfl,_,g1⟩:=hos.isTexts
   have G1:=Lib.hid g1
   clear ht ha hos hon hbel hN hT hnd g1
   by_cases hlt:k < n
   · obtain ⟨s, hs⟩ : ∃ s, l[k]? = some s := ⟨l[k]'(by have := HN.out; omega), List.getElem?_eq_getElem _⟩
     obtain ⟨b1,o1,rfl,hb1,p0⟩:=F1.out k s hs
     have q0:=(HB.out.cell (p:=⟨b1,o1 + k,none⟩) hb1).trans p0
     obtain ⟨m,hm⟩:∃ m,m=T.length:=⟨_,rfl⟩
     have HM:=Lib.hid hm
     have hml:m≤1000000:=by have:=HTL.out;omega
     rw [←hm]
     clear p0 hm
     go_wp2
     go_loop [8,18] (fun x i=>∃ q:Nat,q≤m∧i=.int .i64 q∧x=.int .i64 (lastB T s q)) (fun _ i=>m - (intOf i).toNat)
     case atStart=>exact ⟨0,Nat.zero_le _,rfl,by rw [lastB_zero]⟩
     case round =>
       obtain ⟨q,hq,rfl,rfl⟩:=hrel
       by_cases hlt2:q < m
       · obtain ⟨x, hx⟩ : ∃ x, T[q]? = some x := ⟨T[q]'(by have := HM.out; omega), List.getElem?_eq_getElem _⟩
         obtain ⟨b2,o2,rfl,hb2,p2⟩:=G1.out q x hx
         by_cases he:x=s
         · subst he
           have HH:=Lib.hid (lastB_hit HND.out hx)
           have hb:=beq_same x
           clear hx
           go_wp2
           go_round
           case rel=>exact ⟨q + 1,by omega,by go_num,by rw [HH.out]⟩
           case measure=>simp [intOf];omega
         · have HH:=Lib.hid (lastB_miss hx he)
           have hb:=beq_diff he
           clear hx
           go_wp2
           go_round
           case rel=>exact ⟨q + 1,by omega,by go_num,by rw [HH.out]⟩
           case measure=>simp [intOf];omega
       · obtain rfl:q=m:=by omega
         by_cases hin:s∈T
         · have HJ:=Lib.hid (show lastB T s q=idxB T s by rw [HM.out];exact lastB_in hin)
           have HT2:=Lib.hid (HT.out.trans (tabK_in hs hin))
           have HA2:=Lib.hid (HA.out.trans (congrArg (N ++ ·) (atK_in hs hin)))
           obtain ⟨j,hj⟩:∃ j,idxB T s=j:=⟨_,rfl⟩
           have hjm:j≤1000000:=by have:=idxB_lt hin;have:=HM.out;omega
           rw [hj] at HJ HA2
           rw [HJ.out]
           clear hs hj
           go_wp2_with (at_builtin;refine wpList_append_int rfl _ _ rfl w.heap.size _ N rfl (HQ.out.alloc _) ⟨wr.heap.size,0,none⟩ 1 rfl j ?c1 ?c2 ?c3 ?_)
           case c2=>have:=HNL.out;omega
           case c3=>have:=HB.out.size;simp;omega
           intro g cap w1 ho1 hg1
           have hbel1:Below w.heap.size w w1:=(HB.out.alloc HB.out.size _).grown hg1 (by have:=HB.out.size;simp;omega) (fun g hg=>(HQ.out.lt g hg).1)
           have hs1:ownsS w1 w.heap.size _ T:=World.ownsRow.kept (HO.out.alloc _) hg1 (rows_apart HO.out HQ.out (show 9≠3 by decide))
           have ha1:atK [] l=(N ++ [j]) ++ atK T (l.drop (k + 1)):=by rw [HA2.out];simp
           have hn1:(N ++ [j]).length=k + 1:=by have:=HNL.out;simp;omega
           have hTn:T.length=q:=HM.out.symm
           rw [←hTn]
           have HX:=Lib.hid (And.intro hbel1 (And.intro hs1 (And.intro ha1 (And.intro hn1 ho1))))
           clear hbel1 hs1 ha1 hn1 ho1 hg1
           go_wp2
           go_roundw
           case rel=>exact ⟨k + 1,T,N ++ [j],by omega,by go_num,by have:=HTL.out;omega,HX.out.2.2.2.1,HND.out,HT2.out,HX.out.2.2.1,HX.out.2.1,by simpa using HX.out.2.2.2.2,HX.out.1⟩
           case measure=>simp [intOf];omega
         · have HJ:=Lib.hid (show lastB T s q=-1 by rw [HM.out];exact lastB_new hin)
           have HT2:=Lib.hid (HT.out.trans (tabK_new hs hin))
           have HA2:=Lib.hid (HA.out.trans (congrArg (N ++ ·) (atK_new hs hin)))
           rw [HJ.out]
           clear hs
           have hTn:T.length=q:=HM.out.symm
           rw [←hTn]
           have hTm:T.length≤1000000:=by omega
           have HTE:=Lib.hid hTn
           clear hTn
           go_wp2_with (at_builtin;refine wpList_append_str rfl _ _ rfl w.heap.size _ T rfl (HO.out.alloc _) ⟨wr.heap.size,0,none⟩ 1 rfl s (by simp [Addr.add]) (by have:=HTL.out;omega) (by have:=HB.out.size;simp;omega) ?_)
           intro g cap w3 ho3 hg3
           have HB3:Hid (Below w.heap.size w w3):=(HB.out.alloc HB.out.size _).grown hg3 (by have:=HB.out.size;simp;omega) (fun g hg=>(HO.out.lt g hg).1)
           have HN3:=Lib.hid (show ownsN w3 w.heap.size _ N from World.ownsRow.kept (HQ.out.alloc _) hg3 (rows_apart HQ.out HO.out (show 3≠9 by decide)))
           have HS3:=Lib.hid ho3
           clear ho3 hg3 HB HO HQ
           go_wp2_with (at_builtin;refine wpList_append_int rfl _ _ rfl w.heap.size _ N rfl (HN3.out.alloc _) ⟨w3.heap.size,0,none⟩ 1 rfl T.length (by simp [Addr.add]) (by have:=HNL.out;omega) (by have:=HB3.out.size;simp;omega) ?_)
           intro g' cap' w4 ho4 hg4
           have HB4:Hid (Below w.heap.size w w4):=(HB3.out.alloc HB3.out.size _).grown hg4 (by have:=HB3.out.size;simp;omega) (fun g hg=>(HN3.out.lt g hg).1)
           have HS4:=Lib.hid (show ownsS w4 w.heap.size _ (T ++ [s]) from World.ownsRow.kept (HS3.out.alloc _) hg4 (rows_apart HS3.out HN3.out (show 9≠3 by decide)))
           have HN4:=Lib.hid ho4
           have HA4:Hid (atK [] l=(N ++ [T.length]) ++ atK (T ++ [s]) (l.drop (k + 1))):=Lib.hid (show _=_ by rw [HA2.out];simp)
           have HL4:Hid ((N ++ [T.length]).length=k + 1∧(T ++ [s]).length≤k + 1):=Lib.hid (show _∧_ by have:=HNL.out;have:=HTL.out;simp;omega)
           have HD4:Hid ((T ++ [s]).Nodup):=Lib.hid (show _ by have:=addK_nodup (s:=s) HND.out;rwa [addK_new hin] at this)
           clear ho4 hg4 HB3 HS3 HN3 HA2
           go_wp2
           go_roundw
           case rel=>exact ⟨k + 1,T ++ [s],N ++ [T.length],by omega,by go_num,HL4.out.2,HL4.out.1,HD4.out,HT2.out,HA4.out,HS4.out,HN4.out,HB4.out⟩
           case measure=>simp [intOf];omega
   · have HT2:Hid (tabK [] l=T):=Lib.hid (show _=_ by rw [HT.out,List.drop_eq_nil_of_le (by have:=HN.out;omega)];rfl)
     have HA2:Hid (atK [] l=N):=Lib.hid (show _=_ by rw [HA.out,List.drop_eq_nil_of_le (by have:=HN.out;omega)];simp [atK])
     go_wp2
     go_ret2
     refine ⟨_,_,rfl,?_,?_,HB.out⟩
     · rw [HT2.out];exact HO.out
     · rw [HA2.out];exact HQ.out
end Go.Proofs.YtjkbmfpomgcblaaGreatDoor
namespace Go.Proofs.YtjkbmfpomgcblaaGreatDoor
open Go.ChangeShapes Go.WideShapes Go.ChangeAt Go.RowKit
theorem three_fieldsB {H:Type} {enc:TypeId×Value→H} {P:Program} {W:World} {spare:Nat→Bool} {held:Bool} {n:Nat} {t:TypeId} {cs:List Value} {x:DataW H×List MemPlace} {p q r:Field}
   (ht:P.underlying t=some (.struct #[p,q,r])) (h1:Go.Deep.oneCellFields P #[p,q,r]=true) (h3:P.cellsOf t=3)
   (h:DataW.trod enc P W 0 spare held n t cs=some x) :
   ∃ (a b c:Value) (u v w:DataW H×List MemPlace) (m:Nat),cs=[a,b,c]∧x.1=.agg [u.1,v.1,w.1] ∧
     DataW.trod enc P W 0 spare held m p.type [a]=some u∧DataW.trod enc P W 0 spare held m q.type [b]=some v∧DataW.trod enc P W 0 spare held m r.type [c]=some w:=by
 obtain ⟨xs,m,_,hx,hl,hxl,hf⟩:=DataW.trod_struct ht h
 rw [h3] at hl
 have hxl':xs.length=3:=hxl
 match cs,hl with
 | [a,b,c],_ =>
   match xs,hxl' with
   | [u,v,w],_ =>
     have one:=Go.Deep.hone_of h1
     have g0:=hf 0 p rfl
     have g1:=hf 1 q rfl
     have g2:=hf 2 r rfl
     rw [(one 0 p rfl).1,(one 0 p rfl).2] at g0
     rw [(one 1 q rfl).1,(one 1 q rfl).2] at g1
     rw [(one 2 r rfl).1,(one 2 r rfl).2] at g2
     exact ⟨a,b,c,u,v,w,m,rfl,by rw [hx];rfl,g0,g1,g2⟩
theorem slice_of {H:Type} {enc:TypeId×Value→H} {P:Program} {W:World} {spare:Nat→Bool} {held:Bool} {n:Nat} {t e:TypeId} {v:Value} {x:DataW H×List MemPlace}
   (ht:P.underlying t=some (.slice e)) (h:DataW.trod enc P W 0 spare held n t [v]=some x):∃ a n c,v=.slice a n c:=by
 rcases Go.Deep.open_slice ht h with ⟨hcs,_⟩ | ⟨a,ln,cp,m,n,D,Pl,hcs,_⟩
 · exact ⟨_,_,_,List.head_eq_of_cons_eq hcs⟩
 · exact ⟨_,_,_,List.head_eq_of_cons_eq hcs⟩
theorem wr_weight {H:Type} (ds:List (DataW H)) (t:Wr) (h:wrD t∈ds):t.key.size∈DataW.weightsAll Tryz.prog 59 ds∧t.value.size∈DataW.weightsAll Tryz.prog 59 ds:=by
 induction ds with
 | nil=>cases h
 | cons d r ih =>
   rw [DataW.weightsAll]
   rcases List.mem_cons.1 h with h | h
   · have g : t.key.size ∈ DataW.weights Tryz.prog 59 (wrD t : DataW H) ∧ t.value.size ∈ DataW.weights Tryz.prog 59 (wrD t : DataW H) := by
       constructor
       · unfold wrD
         rw [DataW.weights,Tryz.underlying59]
         simp [DataW.weightsEach,DataW.weights,Tryz.underlying57]
       · unfold wrD
         rw [DataW.weights,Tryz.underlying59]
         simp [DataW.weightsEach,DataW.weights,Tryz.underlying57]
     rw [←h]
     exact ⟨List.mem_append_left _ g.1,List.mem_append_left _ g.2⟩
   · exact ⟨List.mem_append_right _ (ih h).1,List.mem_append_right _ (ih h).2⟩
theorem wrsArg {H:Type} {enc:TypeId×Value→H} {W:World} {spare:Nat→Bool} {held:Bool} {a0:Option Addr} {len0 cap0 fuel:Nat} {d:DataW H} {p:List MemPlace}
   (hf:DataW.trod enc Tryz.prog W 0 spare held fuel 23 [.slice a0 len0 cap0]=some (d,p))
   (hw:∀ x∈DataW.weights Tryz.prog 23 d,x≤reachBytes) :
   ∃ l:List Wr,IsWrs W (.slice a0 len0 cap0) l∧l.length=len0∧len0≤cap0∧cap0≤maxLen∧∀ t∈l,WrOk t:=by
 rcases Go.Deep.open_slice Tryz.underlying23 hf with ⟨hcs,_⟩ | ⟨a,ln,cp,m,n,D,Pl,hcs,_,hl,hm,hmm,hx,hi⟩
 · simp only [List.cons.injEq,Value.slice.injEq,and_true] at hcs
   obtain ⟨rfl,rfl,rfl⟩:=hcs
   exact ⟨[],.inl ⟨_,_,rfl,rfl⟩,rfl,Nat.le_refl _,by unfold maxLen;omega,fun t h=>by cases h⟩
 · simp only [List.cons.injEq,Value.slice.injEq,and_true] at hcs
   obtain ⟨rfl,rfl,rfl⟩:=hcs
   have h3:Tryz.prog.cellsOf 59=6:=by kernel_rfl
   rw [h3] at hi
   have hle:len0≤m:=by rw [hmm];split <;> omega
   obtain ⟨f,hfc⟩:=Go.Deep.choose_lt (n:=len0) (p:=fun i (t:Wr)=>W.cells? 0 (a.add (i * 6)) 6=some (wrC t)∧D i=wrD t∧-9223372036854775808≤t.n∧t.n≤9223372036854775807) (fun i hlt=>by
     obtain ⟨cs',hc,ht⟩:=hi i (by omega)
     obtain ⟨t,h1,h2,h4⟩:=wr_elem ht
     exact ⟨t,by rw [hc,h1],h2,h4⟩)
   have hll:((List.range len0).map f).length=len0:=by simp
   refine ⟨(List.range len0).map f,?_,hll,hl,hm,fun t ht=>?_⟩
   · by_cases hz:len0=0
     · subst hz;exact .inl ⟨_,_,rfl,rfl⟩
     · obtain ⟨b,off,spot⟩:=a
       have hcell:∀ i,i < len0→∀ r,r < 6→W.cell? ((⟨b,off,spot⟩:Addr).add (i * 6 + r))=(wrC (f i))[r]? := fun i hlt r hr=>by
         obtain ⟨_,_,hat⟩:=World.cells?_some (hfc i hlt).1
         rw [←Go.Deep.add_add];exact hat r hr
       have h0:=hcell 0 (by omega) 0 (by omega)
       have hspot:spot=none:=by simpa [Addr.add] using World.cell?_spot (h0.trans rfl)
       subst hspot
       refine .inr ⟨b,off,cap0,by rw [hll],by rw [hll];omega,block_lt_of_cell (h0.trans rfl),fun j u hj=>?_⟩
       have hjl:j < len0 * 6:=by rw [←hll,←wrsC_len];exact (List.getElem?_eq_some_iff.1 hj).1
       have hc:=hcell (j / 6) (by omega) (j % 6) (Nat.mod_lt _ (by decide))
       have hti:((List.range len0).map f)[j / 6]? = some (f (j / 6)):=by
         rw [List.getElem?_map,List.getElem?_range (by omega)];rfl
       have h5:=wrsC_at _ _ (j % 6) _ hti (Nat.mod_lt _ (by decide))
       rw [show j / 6 * 6 + j % 6=j by omega] at hc h5
       rw [←h5,hj] at hc
       rw [←hc]
       refine congrArg W.cell? ?_
       unfold Addr.add
       split
       · rename_i e;rw [e];rfl
       · rfl
   · obtain ⟨i,hir,hit⟩:=List.mem_map.1 ht
     have hil:=List.mem_range.1 hir
     have hd:d=.slice ((List.range len0).map D) ((List.range (m - len0)).map fun j=>D (len0 + j)):=(Prod.mk.inj hx).1
     have hmem:wrD t∈(List.range len0).map D:=List.mem_map.2 ⟨i,hir,by rw [(hfc i hil).2.1,hit]⟩
     have hwt:=wr_weight _ t hmem
     have hin:∀ y∈DataW.weightsAll Tryz.prog 59 ((List.range len0).map D),y≤reachBytes:=fun y hy=>hw y (by
       rw [hd,DataW.weights,Tryz.underlying23]
       exact List.mem_cons_of_mem _ (List.mem_append_left _ hy))
     have g1:=hin _ hwt.1
     have g2:=hin _ hwt.2
     unfold reachBytes at g1 g2
     have hn:=(hfc i hil).2.2
     rw [hit] at hn
     exact ⟨hn.1,hn.2,by omega,by omega⟩
def BatIs (W:World) (vf vh vw:Value) (f h:List Ent) (l:List Wr):Prop :=
 IsEnts W vf f∧IsEnts W vh h∧IsWrs W vw l∧f.length≤9223372036854775807∧h.length≤9223372036854775807∧l.length≤9223372036854775807∧∀ t∈l,WrOk t
theorem BatIs.below {w w':World} {vf vh vw:Value} {f h:List Ent} {l:List Wr} (hx:BatIs w vf vh vw f h l) (hb:Below w.heap.size w w'):BatIs w' vf vh vw f h l :=
 ⟨hx.1.below hb,hx.2.1.below hb,hx.2.2.1.below hb,hx.2.2.2⟩
theorem BatIs.alloc {w:World} {vf vh vw:Value} {f h:List Ent} {l:List Wr} (hx:BatIs w vf vh vw f h l) (o:Obj):BatIs (w.alloc o) vf vh vw f h l :=
 hx.below ((Below.refl _ _).alloc (Nat.le_refl _) o)
set_option maxRecDepth 100000 in
theorem batArg {H:Type} {enc:TypeId×Value→H} {W:World} {spare:Nat→Bool} {held:Bool} {v:Value} {d:DataW H} {p:List MemPlace} {base:Nat}
   (hv:Value.okWide Tryz.prog W .any base 25 v) (h:DataW.Trod enc Tryz.prog W 0 spare held 25 v d p)
   (hw:∀ x∈DataW.weights Tryz.prog 25 d,x≤reachBytes):∃ vf vh vw f h l,v=.agg #[vf,vh,vw]∧BatIs W vf vh vw f h l:=by
 obtain ⟨cs,rfl,hsz⟩:=okWide_struct Tryz.underlying25 hv
 obtain ⟨fuel,hf⟩:=h
 obtain ⟨vf,vh,vw,⟨df,pf⟩,⟨dh,ph⟩,⟨dw,pw⟩,m,hcs,hd,g0,g1,g2⟩:=three_fieldsB Tryz.underlying25 (by kernel_rfl) (by kernel_rfl) hf
 obtain ⟨af,nf,cf,rfl⟩:=slice_of Tryz.underlying22 g0
 obtain ⟨ah,nh,ch,rfl⟩:=slice_of Tryz.underlying22 g1
 obtain ⟨aw,nw,cw,rfl⟩:=slice_of Tryz.underlying23 g2
 obtain ⟨f,if_,lf,cf1,mf⟩:=entsArg g0
 obtain ⟨h,ih_,lh,ch1,mh⟩:=entsArg g1
 obtain rfl:d=.agg [df,dh,dw]:=hd
 obtain ⟨l,iw,lw,cw1,mw,ow⟩:=wrsArg g2 (fun x hx=>hw x (by
   rw [DataW.weights,Tryz.underlying25]
   show x∈DataW.weightsEach _ (_ :: _ :: _ :: _) (_ :: _ :: _ :: _)
   rw [DataW.weightsEach,DataW.weightsEach,DataW.weightsEach]
   exact List.mem_append_right _ (List.mem_append_right _ (List.mem_append_left _ hx))))
 unfold maxLen at mf mh mw
 refine ⟨_,_,_,f,h,l,?_,if_,ih_,iw,by omega,by omega,by omega,ow⟩
 have:cs.toList=[.slice af nf cf,.slice ah nh ch,.slice aw nw cw]:=by simpa [Value.cells] using hcs
 rw [←Array.toArray_toList (xs:=cs),this]
end Go.Proofs.YtjkbmfpomgcblaaGreatDoor
