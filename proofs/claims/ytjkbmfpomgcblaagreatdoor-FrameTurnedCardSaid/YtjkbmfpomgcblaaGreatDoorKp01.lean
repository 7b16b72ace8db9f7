import Derived.WalkKit
import Derived.Shelf.Strings.Builder1
import Derived.Shelf.Strings.Builder2
import Derived.Shelf.Strings.OnBuilder
import Derived.Shelf.Small.Wraps
import Derived.Shelf.Strings.BuilderF
import Derived.Shelf.Strings.BuilderK
import Derived.Shelf.Strconv.Itoa0
import Derived.Shelf.Strconv.Itoa1
import Derived.Shelf.LaysM
import Derived.Shelf.Strconv.Itoa2
import Derived.Shelf.Strconv.Itoa3
import Derived.Shelf.Strconv.Clone
import Derived.Shelf.Strings.Search1
import Derived.Shelf.Strings.Search2
import Derived.Shelf.Strings.Search3
import Derived.Shelf.Strings.Shaped
import Derived.Shelf.Strings.Prefix
import Derived.Ground.Names2Prog
import Derived.Shelf.Slices.SearchI
import Derived.Test.YtjkbmfpomgcblaaGreatDoorProg
import Derived.Handy
import Derived.Below
import Derived.KernelRfl
import Derived.Lib.Hide
import Derived.Deep.AppendLies
import Derived.Laws.OwnMore
namespace Go.Proofs.YtjkbmfpomgcblaaGreatDoor
instance memB (s : ByteArray) (t : List ByteArray) : Decidable (s ∈ t) := decidable_of_iff (t.any (fun x => decide (x = s)) = true) (by simp)
def idxB (t:List ByteArray) (s:ByteArray):Nat:=t.findIdx (fun x=>decide (x=s))
def addK (t:List ByteArray) (s:ByteArray):List ByteArray:=if s∈t then t else t ++ [s]
def tabK:List ByteArray→List ByteArray→List ByteArray
 | t,[]=>t
 | t,s :: r=>tabK (addK t s) r
def atK:List ByteArray→List ByteArray→List Nat
 | _,[]=>[]
 | t,s :: r=>idxB t s :: atK (addK t s) r
theorem idxB_lt {t:List ByteArray} {s:ByteArray} (h:s∈t):idxB t s < t.length:=by
 unfold idxB;exact List.findIdx_lt_length_of_exists ⟨s,h,by simp⟩
theorem idxB_get {t:List ByteArray} {s:ByteArray} (h:s∈t):t[idxB t s]? = some s:=by
 have h1:=idxB_lt h
 have h2:=List.findIdx_getElem (xs:=t) (p:=fun x=>decide (x=s)) (w:=h1)
 rw [List.getElem?_eq_getElem h1]
 simp only [decide_eq_true_eq] at h2
 exact congrArg some h2
theorem idxB_new {t:List ByteArray} {s:ByteArray} (h:s ∉ t):idxB t s=t.length:=by
 unfold idxB
 rw [List.findIdx_eq_length]
 intro x hx
 simp only [decide_eq_false_iff_not]
 rintro rfl;exact h hx
theorem idxB_at {t:List ByteArray} (hn:t.Nodup) {j:Nat} {s:ByteArray} (h:t[j]? = some s):idxB t s=j:=by
 have hm:s∈t:=List.mem_of_getElem? h
 have h1:=idxB_get hm
 obtain ⟨hj,ej⟩:=List.getElem?_eq_some_iff.1 h
 obtain ⟨hi,ei⟩:=List.getElem?_eq_some_iff.1 h1
 exact (List.getElem_inj hn).1 (ei.trans ej.symm)
theorem addK_in {t:List ByteArray} {s:ByteArray} (h:s∈t):addK t s=t:=if_pos h
theorem addK_new {t:List ByteArray} {s:ByteArray} (h:s ∉ t):addK t s=t ++ [s]:=if_neg h
theorem addK_nodup {t:List ByteArray} {s:ByteArray} (h:t.Nodup):(addK t s).Nodup:=by
 unfold addK;split
 · exact h
 · rename_i hs
   rw [List.nodup_append]
   exact ⟨h,by simp,fun a ha b hb=>by simp at hb;subst hb;rintro rfl;exact hs ha⟩
theorem addK_pre (t:List ByteArray) (s:ByteArray):t <+: addK t s:=by
 unfold addK;split
 · exact List.prefix_rfl
 · exact List.prefix_append _ _
theorem tabK_pre (r:List ByteArray):∀ t,t <+: tabK t r:=by
 induction r with
 | nil=>intro t;exact List.prefix_rfl
 | cons s r ih=>intro t;exact (addK_pre t s).trans (ih _)
theorem tabK_nodup (r:List ByteArray):∀ t,t.Nodup→(tabK t r).Nodup:=by
 induction r with
 | nil=>intro t h;exact h
 | cons s r ih=>intro t h;exact ih _ (addK_nodup h)
theorem tabK_len (r:List ByteArray):∀ t,(tabK t r).length≤t.length + r.length:=by
 induction r with
 | nil=>intro t;simp [tabK]
 | cons s r ih =>
   intro t
   have:=ih (addK t s)
   have h2:(addK t s).length≤t.length + 1:=by unfold addK;split <;> simp
   simp [tabK];omega
theorem tabK_sub (r:List ByteArray):∀ t x,x∈tabK t r→x∈t∨x∈r:=by
 induction r with
 | nil=>intro t x h;exact .inl h
 | cons s r ih =>
   intro t x h
   rcases ih _ _ h with h1 | h1
   · unfold addK at h1
     split at h1
     · exact .inl h1
     · rcases List.mem_append.1 h1 with h2 | h2
       · exact .inl h2
       · simp at h2;subst h2;exact .inr (by simp)
   · exact .inr (List.mem_cons_of_mem _ h1)
theorem tabK_in {l t:List ByteArray} {k:Nat} {s:ByteArray} (h:l[k]? = some s) (hs:s∈t):tabK t (l.drop k)=tabK t (l.drop (k + 1)):=by
 obtain ⟨hk,e⟩:=List.getElem?_eq_some_iff.1 h
 rw [List.drop_eq_getElem_cons hk,e,tabK,addK_in hs]
theorem tabK_new {l t:List ByteArray} {k:Nat} {s:ByteArray} (h:l[k]? = some s) (hs:s ∉ t):tabK t (l.drop k)=tabK (t ++ [s]) (l.drop (k + 1)):=by
 obtain ⟨hk,e⟩:=List.getElem?_eq_some_iff.1 h
 rw [List.drop_eq_getElem_cons hk,e,tabK,addK_new hs]
theorem atK_in {l t:List ByteArray} {k:Nat} {s:ByteArray} (h:l[k]? = some s) (hs:s∈t):atK t (l.drop k)=idxB t s :: atK t (l.drop (k + 1)):=by
 obtain ⟨hk,e⟩:=List.getElem?_eq_some_iff.1 h
 rw [List.drop_eq_getElem_cons hk,e,atK,addK_in hs]
theorem atK_new {l t:List ByteArray} {k:Nat} {s:ByteArray} (h:l[k]? = some s) (hs:s ∉ t):atK t (l.drop k)=t.length :: atK (t ++ [s]) (l.drop (k + 1)):=by
 obtain ⟨hk,e⟩:=List.getElem?_eq_some_iff.1 h
 rw [List.drop_eq_getElem_cons hk,e,atK,addK_new hs,idxB_new hs]
def dupG:List ByteArray→List ByteArray→Nat→Option Nat
 | _,[],_=>none
 | seen,s :: r,i=>if s∈seen then some i else dupG (seen ++ [s]) r (i + 1)
def ordG (K:Nat):Nat→List Int→Nat→Nat×Int
 | told,[],_=>if told < K then (8,-1) else (0,-1)
 | told,n :: r,i=>if n < 0∨(K:Int)≤n then (2,(i:Int)) else if (told:Int) < n then (13,(i:Int)) else ordG K (if n=told then told + 1 else told) r (i + 1)
def outG (T:List ByteArray) (l:List Int):List ByteArray:=l.map fun n=>T.getD n.toNat ByteArray.empty
def listF (T:List ByteArray) (l:List Int):List ByteArray×Nat×Int :=
 match dupG [] T 0 with
 | some i=>([],9,(i:Int))
 | none=>if (ordG T.length 0 l 0).1=0 then (outG T l,0,-1) else ([],ordG T.length 0 l 0)
theorem dupG_nodup (r:List ByteArray):∀ seen i,seen.Nodup→(dupG seen r i=none↔(seen ++ r).Nodup):=by
 induction r with
 | nil=>intro seen i h;simp [dupG,h]
 | cons s r ih =>
   intro seen i h
   unfold dupG
   split
   · rename_i hs
     simp only [reduceCtorEq,false_iff]
     intro hc
     rw [List.nodup_append] at hc
     exact hc.2.2 s hs s (by simp) rfl
   · rename_i hs
     have hn:(seen ++ [s]).Nodup:=by have:=addK_nodup (s:=s) h;rwa [addK_new hs] at this
     rw [ih _ _ hn]
     simp
theorem ordG_atK (K:Nat) (r:List ByteArray):∀ t i,(tabK t r).length=K→ordG K t.length ((atK t r).map Int.ofNat) i=(0,-1):=by
 induction r with
 | nil=>intro t i h;simp only [atK,List.map_nil,ordG];rw [if_neg (by simp [tabK] at h;omega)]
 | cons s r ih =>
   intro t i h
   have hp:(addK t s).length≤K:=by rw [←h];exact (tabK_pre r (addK t s)).length_le
   rw [atK,List.map_cons,ordG]
   by_cases hs:s∈t
   · have h1:=idxB_lt hs
     have e:=addK_in hs
     rw [e] at hp ⊢
     have hofN:Int.ofNat (idxB t s)=((idxB t s:Nat):Int):=rfl
     rw [hofN,if_neg (by omega),if_neg (by omega),if_neg (by omega)]
     have:=ih t (i + 1) (by rw [←h,tabK,e])
     exact this
   · have h1:=idxB_new hs
     have e:=addK_new hs
     rw [e] at hp ⊢
     have hofN:Int.ofNat (idxB t s)=((t.length:Nat):Int):=by rw [h1];rfl
     simp only [List.length_append,List.length_singleton] at hp
     rw [hofN,if_neg (by omega),if_neg (by omega),if_pos rfl]
     have:=ih (t ++ [s]) (i + 1) (by rw [←h,tabK,e])
     simpa using this
theorem outG_atK (r:List ByteArray):∀ t,outG (tabK t r) ((atK t r).map Int.ofNat)=r:=by
 induction r with
 | nil=>intro t;rfl
 | cons s r ih =>
   intro t
   have hh:=ih (addK t s)
   unfold outG at hh ⊢
   rw [atK,List.map_cons,List.map_cons,tabK]
   congr 1
   have hx:(addK t s)[idxB t s]? = some s:=by
     by_cases hs:s∈t
     · rw [addK_in hs];exact idxB_get hs
     · rw [addK_new hs,idxB_new hs];simp
   have hp:=tabK_pre r (addK t s)
   obtain ⟨z,hz⟩:=hp
   have hlt:idxB t s < (addK t s).length:=(List.getElem?_eq_some_iff.1 hx).1
   have:(tabK (addK t s) r)[idxB t s]? = some s:=by rw [←hz,List.getElem?_append_left hlt];exact hx
   simp [this]
theorem listF_table (l:List ByteArray):listF (tabK [] l) ((atK [] l).map Int.ofNat)=(l,0,-1):=by
 unfold listF
 have h1:dupG [] (tabK [] l) 0=none:=(dupG_nodup _ _ _ (by simp)).2 (by simpa using tabK_nodup l [] (by simp))
 have h2:=ordG_atK (tabK [] l).length l [] 0 rfl
 simp only [List.length_nil] at h2
 rw [h1,h2]
 simp [outG_atK]
theorem only_at (T:List ByteArray) (hn:T.Nodup) (l:List Int):∀ told i,told≤T.length→(ordG T.length told l i).1=0 →
   tabK (T.take told) (outG T l)=T∧(atK (T.take told) (outG T l)).map Int.ofNat=l:=by
 induction l with
 | nil =>
   intro told i ht h
   unfold ordG at h
   split at h
   · simp at h
   · refine ⟨?_,rfl⟩
     simp only [outG,List.map_nil,tabK]
     exact List.take_of_length_le (by omega)
 | cons n r ih =>
   intro told i ht h
   unfold ordG at h
   split at h
   · simp at h
   · split at h
     · simp at h
     · rename_i h1 h2
       obtain ⟨j,rfl⟩:∃ j:Nat,n=j:=⟨n.toNat,by omega⟩
       have hjl:j < T.length:=by omega
       have hout:outG T ((j:Int) :: r)=T[j] :: outG T r:=by simp [outG,hjl]
       have hat:T[j]? = some T[j]:=List.getElem?_eq_getElem hjl
       rw [hout,tabK,atK,List.map_cons]
       by_cases hjt:j=told
       · subst hjt
         rw [if_pos rfl] at h
         have hne:T[j] ∉ T.take j:=by
           intro hc
           obtain ⟨m,hm⟩:=List.mem_iff_getElem?.1 hc
           have hmj:m < j:=by have:=(List.getElem?_eq_some_iff.1 hm).1;simp at this;omega
           rw [List.getElem?_take_of_lt hmj] at hm
           have e1:=idxB_at hn hm
           have e2:=idxB_at hn hat
           omega
         have e:addK (T.take j) T[j]=T.take (j + 1):=by rw [addK_new hne,List.take_append_getElem hjl]
         have ei:idxB (T.take j) T[j]=j:=by rw [idxB_new hne,List.length_take];omega
         rw [e,ei]
         obtain ⟨q1,q2⟩:=ih (j + 1) (i + 1) (by omega) h
         exact ⟨q1,by rw [q2];rfl⟩
       · rw [if_neg (by omega)] at h
         have hjt2:j < told:=by omega
         have hm:(T.take told)[j]? = some T[j]:=by rw [List.getElem?_take_of_lt hjt2];exact hat
         have hin:T[j]∈T.take told:=List.mem_of_getElem? hm
         have ei:idxB (T.take told) T[j]=j:=idxB_at (hn.sublist (List.take_sublist _ _)) hm
         rw [addK_in hin,ei]
         obtain ⟨q1,q2⟩:=ih told (i + 1) ht h
         exact ⟨q1,by rw [q2];rfl⟩
theorem listF_ok {T:List ByteArray} {l:List Int} (h:(listF T l).2.1=0):listF T l=(outG T l,0,-1)∧tabK [] (outG T l)=T∧(atK [] (outG T l)).map Int.ofNat=l:=by
 unfold listF at h ⊢
 split at h
 · simp at h
 · rename_i hd
   have hn:T.Nodup:=by simpa using (dupG_nodup T [] 0 (by simp)).1 hd
   split at h
   · rename_i ho
     rw [if_pos ho]
     have:=only_at T hn l 0 0 (Nat.zero_le _) ho
     simp only [List.take_zero] at this
     exact ⟨rfl,this.1,this.2⟩
   · rename_i ho;exact absurd h ho
end Go.Proofs.YtjkbmfpomgcblaaGreatDoor
namespace Go.Proofs
open Go.Shelf
def Tryz.lays169_ren:Go.Shelf.Ren:=⟨fun | 169=>49 | n=>n,fun | 70=>62 | 9=>9 | 0=>0 | 72=>64 | 37=>60 | 127=>114 | 3=>3 | 5=>5 | n=>n,fun | n=>n⟩
theorem Tryz.lays169:Go.Proofs.Lays.n169 Tryz.prog Tryz.lays169_ren:={
 mixed:=by kernel_rfl
 f169:=Tryz.func49.trans (congrArg some (by kernel_rfl))
 t0:=Tryz.underlying0
 a0:=Tryz.isAgg0
 z0:=Tryz.sizeOf0
 v0:=Tryz.zeroValue0
 t3:=Tryz.underlying3
 a3:=Tryz.isAgg3
 z3:=Tryz.sizeOf3
 v3:=Tryz.zeroValue3
 t9:=Tryz.underlying9
 a9:=Tryz.isAgg9
 z9:=Tryz.sizeOf9
 v9:=Tryz.zeroValue9
 t37:=Tryz.underlying60
 a37:=Tryz.isAgg60
 z37:=Tryz.sizeOf60
 v37:=Tryz.zeroValue60
 t70:=Tryz.underlying62
 a70:=Tryz.isAgg62
 z70:=Tryz.sizeOf62
 v70:=Tryz.zeroValue62
 t72:=Tryz.underlying64
 a72:=Tryz.isAgg64
 z72:=Tryz.sizeOf64
 v72:=Tryz.zeroValue64
 t127:=Tryz.underlying114
 a127:=Tryz.isAgg114
 z127:=Tryz.sizeOf114
 v127:=Tryz.zeroValue114 }
theorem Tryz.Builder_Extra_169:Builder.Extra Tryz.prog Tryz.lays169_ren:={
 sizeBuilder:=by kernel_rfl
 liesBuilder:=by kernel_rfl
 t5:=Tryz.underlying5
 a5:=Tryz.isAgg5
 z5:=Tryz.sizeOf5
 v5:=Tryz.zeroValue5
 infoByte:=by kernel_rfl
 cellsByte:=by kernel_rfl
 sizeByte:=by kernel_rfl
 neB5:=by decide }
open Go.RowKit in
theorem Tryz.Builder_String_any (B b:Nat) (l:List UInt8) (w:World) (h:Lib.IsBuilder 64 5 B b (Lib.byteCells l) w) (hBw:B≤w.heap.size) :
   Calls Tryz.prog 49 #[.pointer (some ⟨b,0,none⟩)] w fun e w'=>e=.returned (.string ⟨l.toArray⟩)∧Below B w w':=Any.Builder_String_any Tryz.lays169 Tryz.Builder_Extra_169 B b l w h hBw
def Tryz.laysM316_ren:Go.Shelf.Ren:=⟨fun | 316=>203 | n=>n,fun | 9=>9 | 3=>3 | 4=>4 | 37=>60 | 0=>0 | 127=>114 | 5=>5 | n=>n,fun | n=>n⟩
theorem Tryz.laysM316:Go.Proofs.LaysM.n316 Tryz.prog Tryz.laysM316_ren:={
 mixed:=by kernel_rfl
 f316:=Tryz.func203.trans (congrArg some (by kernel_rfl))
 t0:=Tryz.underlying0
 a0:=Tryz.isAgg0
 z0:=Tryz.sizeOf0
 v0:=Tryz.zeroValue0
 t3:=Tryz.underlying3
 a3:=Tryz.isAgg3
 z3:=Tryz.sizeOf3
 v3:=Tryz.zeroValue3
 t4:=Tryz.underlying4
 a4:=Tryz.isAgg4
 z4:=Tryz.sizeOf4
 v4:=Tryz.zeroValue4
 t9:=Tryz.underlying9
 a9:=Tryz.isAgg9
 z9:=Tryz.sizeOf9
 v9:=Tryz.zeroValue9
 t37:=Tryz.underlying60
 a37:=Tryz.isAgg60
 z37:=Tryz.sizeOf60
 v37:=Tryz.zeroValue60
 t127:=Tryz.underlying114
 a127:=Tryz.isAgg114
 z127:=Tryz.sizeOf114
 v127:=Tryz.zeroValue114
 t5:=Tryz.underlying5
 a5:=Tryz.isAgg5
 z5:=Tryz.sizeOf5
 v5:=Tryz.zeroValue5
 i0:=by kernel_rfl
 i3:=by kernel_rfl
 i4:=by kernel_rfl
 i5:=by kernel_rfl
 i9:=by kernel_rfl
 i37:=by kernel_rfl
 i127:=by kernel_rfl }
open Go.RowKit in
theorem Tryz.stringslite_Clone (s:ByteArray) (w:World) (hlim:s.size≤281474976710656) :
   Calls Tryz.prog 203 #[.string s] w fun e w'=>e=.returned (.string s)∧Below w.heap.size w w':=Any.stringslite_Clone Tryz.laysM316 s w hlim
def Tryz.lays99_ren:Go.Shelf.Ren:=⟨fun | 99=>41 | 206=>87 | n=>n,fun | 9=>9 | 4=>4 | 3=>3 | n=>n,fun | n=>n⟩
theorem Tryz.lays99:Go.Proofs.Lays.n99 Tryz.prog Tryz.lays99_ren:={
 mixed:=by kernel_rfl
 f99:=Tryz.func41.trans (congrArg some (by kernel_rfl))
 f206:=Tryz.func87.trans (congrArg some (by kernel_rfl))
 t3:=Tryz.underlying3
 a3:=Tryz.isAgg3
 z3:=Tryz.sizeOf3
 v3:=Tryz.zeroValue3
 t4:=Tryz.underlying4
 a4:=Tryz.isAgg4
 z4:=Tryz.sizeOf4
 v4:=Tryz.zeroValue4
 t9:=Tryz.underlying9
 a9:=Tryz.isAgg9
 z9:=Tryz.sizeOf9
 v9:=Tryz.zeroValue9 }
open Go.RowKit Go.Lib in
theorem Tryz.strings_HasPrefix (s p:ByteArray) (w:World) :
   Calls Tryz.prog 41 #[.string s,.string p] w fun e w'=>e=.returned (.bool (Lib.hasPrefix s.data.toList p.data.toList))∧w'=w:=Any.strings_HasPrefix Tryz.lays99 s p w
end Go.Proofs
namespace Go.Proofs.YtjkbmfpomgcblaaGreatDoor
open Go.RowKit
def idRW (x:Int×Int):Bool:=decide (1≤x.1∧x.1≤1099511627776∧0≤x.2∧x.2≤200)
set_option maxRecDepth 100000 in
theorem idrightW_any (x1 x2:Int) (b:Bool) (w:World) (hb:idRW (x1,x2)=b) :
   Calls Tryz.prog 197 #[.agg #[.int .i64 x1,.int .i64 x2]] w fun e w'=>e=.returned (.bool b)∧Below w.heap.size w w':=by
 subst hb
 unfold idRW
 by_cases h1:1≤x1
 · by_cases h2:x1≤1099511627776
   · by_cases h3:0≤x2
     · by_cases h4:x2≤200
       · rw [decide_eq_true (show 1≤(x1,x2).1∧(x1,x2).1≤1099511627776∧0≤(x1,x2).2∧(x1,x2).2≤200 from ⟨h1,h2,h3,h4⟩)]
         go_enter Tryz.func197,Tryz.ntmps197
         go_wp2
         go_ret
         exact ⟨rfl,(Below.refl _ _).alloc (Nat.le_refl _) _⟩
       · rw [decide_eq_false (show ¬ (1≤(x1,x2).1∧(x1,x2).1≤1099511627776∧0≤(x1,x2).2∧(x1,x2).2≤200) from fun h=>h4 h.2.2.2)]
         have d:decide (x2≤200)=false:=decide_eq_false h4
         go_enter Tryz.func197,Tryz.ntmps197
         go_wp2
         go_ret
         exact ⟨by first | rfl | (show Ending.returned (Value.bool (decide _))=_;rw [d]),(Below.refl _ _).alloc (Nat.le_refl _) _⟩
     · rw [decide_eq_false (show ¬ (1≤(x1,x2).1∧(x1,x2).1≤1099511627776∧0≤(x1,x2).2∧(x1,x2).2≤200) from fun h=>h3 h.2.2.1)]
       have d:decide (0≤x2)=false:=decide_eq_false h3
       go_enter Tryz.func197,Tryz.ntmps197
       go_wp2
       go_ret
       exact ⟨by first | rfl | simp,(Below.refl _ _).alloc (Nat.le_refl _) _⟩
   · rw [decide_eq_false (show ¬ (1≤(x1,x2).1∧(x1,x2).1≤1099511627776∧0≤(x1,x2).2∧(x1,x2).2≤200) from fun h=>h2 h.2.1)]
     have d:decide (x1≤1099511627776)=false:=decide_eq_false h2
     go_enter Tryz.func197,Tryz.ntmps197
     go_wp2
     go_ret
     exact ⟨by first | rfl | simp,(Below.refl _ _).alloc (Nat.le_refl _) _⟩
 · rw [decide_eq_false (show ¬ (1≤(x1,x2).1∧(x1,x2).1≤1099511627776∧0≤(x1,x2).2∧(x1,x2).2≤200) from fun h=>h1 h.1)]
   have d:decide (1≤x1)=false:=decide_eq_false h1
   go_enter Tryz.func197,Tryz.ntmps197
   go_wp2
   go_ret
   exact ⟨by first | rfl | simp,(Below.refl _ _).alloc (Nat.le_refl _) _⟩
end Go.Proofs.YtjkbmfpomgcblaaGreatDoor
namespace Go.Proofs.YtjkbmfpomgcblaaGreatDoor
def smC (l:List UInt8) (a b m n:Nat):Prop :=
 n≤m∧(∀ j,j < n→l.getD (a + j) 0=l.getD (a + j - b) 0)∧(n < m→l.getD (a + n) 0≠l.getD (a + n - b) 0)
def sm (l:List UInt8) (a b:Nat):Nat→Nat
 | 0=>0
 | m + 1=>if sm l a b m < m then sm l a b m else if l.getD (a + m) 0=l.getD (a + m - b) 0 then m + 1 else m
theorem sm_is (l:List UInt8) (a b m:Nat):smC l a b m (sm l a b m):=by
 induction m with
 | zero=>exact ⟨Nat.le_refl _,fun j h=>by simp [sm] at h,fun h=>by simp [sm] at h⟩
 | succ m ih =>
   obtain ⟨h1,h2,h3⟩:=ih
   rw [sm]
   by_cases h:sm l a b m < m
   · rw [if_pos h]
     exact ⟨by omega,h2,fun _=>h3 h⟩
   · rw [if_neg h]
     have e:sm l a b m=m:=by omega
     rw [e] at h2
     by_cases hq:l.getD (a + m) 0=l.getD (a + m - b) 0
     · rw [if_pos hq]
       refine ⟨Nat.le_refl _,fun j hj=>?_,fun hj=>absurd hj (Nat.lt_irrefl _)⟩
       by_cases hjm:j=m
       · subst hjm;exact hq
       · exact h2 j (by omega)
     · rw [if_neg hq]
       exact ⟨by omega,h2,fun _=>hq⟩
theorem smC_one {l:List UInt8} {a b m n n':Nat} (h:smC l a b m n) (h':smC l a b m n'):n=n':=by
 obtain ⟨h1,h2,h3⟩:=h
 obtain ⟨k1,k2,k3⟩:=h'
 rcases Nat.lt_trichotomy n n' with hl | hl | hl
 · exact absurd (k2 n hl) (h3 (by omega))
 · exact hl
 · exact absurd (h2 n' hl) (k3 (by omega))
theorem sm_eq {l:List UInt8} {a b m n:Nat} (h:smC l a b m n):sm l a b m=n:=smC_one (sm_is l a b m) h
theorem sm_le (l:List UInt8) (a b m:Nat):sm l a b m≤m:=(sm_is l a b m).1
def bestC (l:List UInt8) (a m lo hi b n:Nat):Prop :=
 (b=0∧n=0∧∀ k,lo≤k→k≤hi→sm l a k m < 4) ∨
 (lo≤b∧b≤hi∧4≤n∧n=sm l a b m∧(∀ k,lo≤k→k≤hi→sm l a k m≤n)∧∀ k,lo≤k→k < b→sm l a k m < n)
theorem bestC_one {l:List UInt8} {a m lo hi b n b' n':Nat} (h:bestC l a m lo hi b n) (h':bestC l a m lo hi b' n'):b=b'∧n=n':=by
 rcases h with ⟨h1,h2,h3⟩ | ⟨h1,h2,h3,h4,h5,h6⟩
 · rcases h' with ⟨k1,k2,k3⟩ | ⟨k1,k2,k3,k4,k5,k6⟩
   · exact ⟨by omega,by omega⟩
   · have:=h3 b' k1 k2;omega
 · rcases h' with ⟨k1,k2,k3⟩ | ⟨k1,k2,k3,k4,k5,k6⟩
   · have:=k3 b h1 h2;omega
   · have e1:=h5 b' k1 k2
     have e2:=k5 b h1 h2
     refine ⟨?_,by omega⟩
     rcases Nat.lt_trichotomy b b' with hl | hl | hl
     · have:=k6 b h1 hl;omega
     · exact hl
     · have:=h6 b' k1 hl;omega
theorem bestC_far {l:List UInt8} {a m lo hi b n:Nat} (h:bestC l a m lo hi b n) (hlo:lo≤hi + 1) (h4:4≤sm l a (hi + 1) m) (hn:n < sm l a (hi + 1) m):bestC l a m lo (hi + 1) (hi + 1) (sm l a (hi + 1) m):=by
 have hall:∀ k,lo≤k→k < hi + 1→sm l a k m < sm l a (hi + 1) m:=fun k h1 h2=>by
   rcases h with ⟨i1,i2,i3⟩ | ⟨i1,i2,i3,i4,i5,i6⟩
   · have:=i3 k h1 (by omega);omega
   · have:=i5 k h1 (by omega);omega
 refine .inr ⟨hlo,Nat.le_refl _,h4,rfl,fun k h1 h2=>?_,fun k h1 h2=>hall k h1 h2⟩
 by_cases e:k=hi + 1
 · subst e;exact Nat.le_refl _
 · exact Nat.le_of_lt (hall k h1 (by omega))
theorem bestC_farnot {l:List UInt8} {a m lo hi b n:Nat} (h:bestC l a m lo hi b n) (hn:¬ (4≤sm l a (hi + 1) m∧n < sm l a (hi + 1) m)):bestC l a m lo (hi + 1) b n:=by
 rcases h with ⟨i1,i2,i3⟩ | ⟨i1,i2,i3,i4,i5,i6⟩
 · refine .inl ⟨i1,i2,fun k h1 h2=>?_⟩
   by_cases e:k=hi + 1
   · subst e;omega
   · exact i3 k h1 (by omega)
 · refine .inr ⟨i1,by omega,i3,i4,fun k h1 h2=>?_,i6⟩
   by_cases e:k=hi + 1
   · subst e;omega
   · exact i5 k h1 (by omega)
theorem bestC_full {l:List UInt8} {a m lo hi b n hi':Nat} (h:bestC l a m lo hi b n) (hn:n=m) (hm:0 < m) (hh:hi≤hi'):bestC l a m lo hi' b n:=by
 rcases h with ⟨i1,i2,i3⟩ | ⟨i1,i2,i3,i4,i5,i6⟩
 · omega
 · exact .inr ⟨i1,by omega,i3,i4,fun k h1 h2=>by rw [hn];exact sm_le _ _ _ _,i6⟩
def best (l:List UInt8) (a m:Nat):Nat→Nat×Nat
 | 0=>(0,0)
 | k + 1=>if 4≤sm l a (k + 1) m∧(best l a m k).2 < sm l a (k + 1) m then (k + 1,sm l a (k + 1) m) else best l a m k
theorem best_is (l:List UInt8) (a m k:Nat):bestC l a m 1 k (best l a m k).1 (best l a m k).2:=by
 induction k with
 | zero=>exact .inl ⟨rfl,rfl,fun k h1 h2=>by omega⟩
 | succ k ih =>
   rw [best]
   by_cases h:4≤sm l a (k + 1) m∧(best l a m k).2 < sm l a (k + 1) m
   · rw [if_pos h]
     exact bestC_far ih (by omega) h.1 h.2
   · rw [if_neg h]
     exact bestC_farnot ih h
theorem best_eq {l:List UInt8} {a m k b n:Nat} (h:bestC l a m 1 k b n):best l a m k=(b,n):=by
 obtain ⟨h1,h2⟩:=bestC_one (best_is l a m k) h
 exact Prod.ext h1 h2
def find (l:List UInt8) (a:Nat):Nat×Nat:=if a < l.length then best l a (min 67 (l.length - a)) (min 1024 a) else (0,0)
theorem find_in {l:List UInt8} {a:Nat} (h:a < l.length):find l a=best l a (min 67 (l.length - a)) (min 1024 a):=by unfold find;rw [if_pos h]
theorem find_out {l:List UInt8} {a:Nat} (h:¬ a < l.length):find l a=(0,0):=by unfold find;rw [if_neg h]
theorem find_cases (l:List UInt8) (a:Nat):(find l a=(0,0)∧(a < l.length→∀ k,1≤k→k≤min 1024 a→sm l a k (min 67 (l.length - a)) < 4)) ∨
   ∃ b n,find l a=(b,n)∧a < l.length∧1≤b∧b≤1024∧b≤a∧4≤n∧n≤67∧a + n≤l.length∧smC l a b (min 67 (l.length - a)) n ∧
     (∀ k,1≤k→k≤min 1024 a→sm l a k (min 67 (l.length - a))≤n)∧∀ k,1≤k→k < b→sm l a k (min 67 (l.length - a)) < n:=by
 by_cases h:a < l.length
 · rw [find_in h]
   obtain ⟨b,n,e⟩:∃ b n,best l a (min 67 (l.length - a)) (min 1024 a)=(b,n):=⟨_,_,rfl⟩
   have hb:=best_is l a (min 67 (l.length - a)) (min 1024 a)
   rw [e] at hb
   rw [e]
   rcases hb with ⟨h1,h2,h3⟩ | ⟨h1,h2,h3,h4,h5,h6⟩
   · simp only at h1 h2
     subst h1 h2
     exact .inl ⟨rfl,fun _=>h3⟩
   · simp only at h1 h2 h3 h4 h5 h6
     have hi:=sm_is l a b (min 67 (l.length - a))
     rw [←h4] at hi
     have:=hi.1
     exact .inr ⟨b,n,rfl,h,h1,by omega,by omega,h3,by omega,by omega,hi,h5,h6⟩
 · exact .inl ⟨find_out h,fun h'=>absurd h' h⟩
structure Tok where
 own:ByteArray
 back:Int
 size:Int
deriving DecidableEq
def ownT (s:List UInt8):List Tok:=if s=[] then [] else [⟨⟨s.toArray⟩,0,0⟩]
def repT (b n:Nat):Tok:=⟨⟨#[]⟩,b,n⟩
theorem ownT_nil:ownT []=[]:=rfl
theorem ownT_cons {s:List UInt8} (h:s≠[]):ownT s=[⟨⟨s.toArray⟩,0,0⟩]:=by unfold ownT;rw [if_neg h]
def tks (l:List UInt8):Nat→Nat→Nat→List Tok
 | 0,fr,a=>ownT ((l.take a).drop fr)
 | f + 1,fr,a =>
   if a < l.length then
     if (find l a).2=0 then tks l f fr (a + 1)
     else ownT ((l.take a).drop fr) ++ repT (find l a).1 (find l a).2 :: tks l f (a + (find l a).2) (a + (find l a).2)
   else ownT ((l.take a).drop fr)
def toks (l:List UInt8):List Tok:=tks l l.length 0 0
theorem tks_end {l:List UInt8} {f fr a:Nat} (h:¬ a < l.length):tks l f fr a=ownT ((l.take a).drop fr):=by
 cases f with
 | zero=>rfl
 | succ f=>rw [tks,if_neg h]
theorem tks_step {l:List UInt8} {f fr a:Nat} (h:a < l.length) (hf:(find l a).2=0):tks l (f + 1) fr a=tks l f fr (a + 1):=by
 rw [tks,if_pos h,if_pos hf]
theorem tks_rep {l:List UInt8} {f fr a b n:Nat} (h:a < l.length) (hf:find l a=(b,n)) (hn:n≠0):tks l (f + 1) fr a=ownT ((l.take a).drop fr) ++ repT b n :: tks l f (a + n) (a + n):=by
 rw [tks,if_pos h,hf,if_neg hn]
end Go.Proofs.YtjkbmfpomgcblaaGreatDoor
namespace Go.Proofs.YtjkbmfpomgcblaaGreatDoor
open Go.RowKit
def atIs (w:World) (v:Value) (r:Nat×Int):Prop :=
 (r=(0,-1)∧v=.nilIface)∨(r.1≠0∧∃ b,v=.iface 111 (.pointer (some ⟨b,0,none⟩))∧b < w.heap.size∧w.cell? ⟨b,0,none⟩=some (.int .i64 (r.1:Nat))∧w.cell? ⟨b,1,none⟩=some (.int .i64 r.2))
theorem atIs.below {w w':World} {v:Value} {r:Nat×Int} (h:atIs w v r) (hb:Below w.heap.size w w'):atIs w' v r:=by
 rcases h with h | ⟨h0,b,h1,h2,h3,h4⟩
 · exact .inl h
 · exact .inr ⟨h0,b,h1,Nat.lt_of_lt_of_le h2 hb.size,(hb.cell (p:=⟨b,0,none⟩) h2).trans h3,(hb.cell (p:=⟨b,1,none⟩) h2).trans h4⟩
theorem atIs.new (w:World) (e:Nat) (pl:Int) (he:e≠0):atIs (w.alloc (.cells #[.int .i64 e,.int .i64 pl] 113)) (.iface 111 (.pointer (some ⟨w.heap.size,0,none⟩))) (e,pl) :=
 .inr ⟨he,_,rfl,by simp,by simp,by simp⟩
def RightIs (w:World) (r:Nat×Int) (e:Ending) (w':World):Prop :=
 ∃ v,e=.returned v∧atIs w' v r∧Below w.heap.size w w'
end Go.Proofs.YtjkbmfpomgcblaaGreatDoor
namespace Go.Proofs.YtjkbmfpomgcblaaGreatDoor
theorem toL (s:ByteArray):s.toList=s.data.toList:=ByteArray.toList_eq s
theorem bytes_ext {a b:ByteArray} (h:a.data.toList=b.data.toList):a=b:=by
 cases a;cases b;simp_all
end Go.Proofs.YtjkbmfpomgcblaaGreatDoor
namespace Go.Proofs.YtjkbmfpomgcblaaGreatDoor
open Go.RowKit
theorem info_int:(Tryz.prog.info? 3).map (fun i=>(i.zero,i.size,i.bytes))=some (some (.int .i64 0),1,8):=by kernel_rfl
def natV (n:Nat):Value:=.int .i64 (n:Int)
def ownsN (w:World) (base:Nat) (v:Value) (l:List Nat):Prop:=w.ownsRow base 3 1 v l.length (l.map natV)
theorem ownsN_nil (w:World) (base:Nat):ownsN w base (.slice none 0 0) []:=World.ownsRow_nil _ _ _ _
theorem ownsN.alloc {w:World} {base:Nat} {v:Value} {l:List Nat} (h:ownsN w base v l) (o:Obj):ownsN (w.alloc o) base v l:=World.ownsRow.alloc h o
theorem ownsN.drew {w:World} {base:Nat} {v:Value} {l:List Nat} (h:ownsN w base v l):ownsN w.drew base v l:=World.ownsRow.drew h
theorem ownsN.lt {w:World} {base:Nat} {v:Value} {l:List Nat} (h:ownsN w base v l):∀ k,v.ownBlock=some k→base≤k∧k < w.heap.size:=World.ownsRow.lt h
theorem ownsN.below {w w':World} {base:Nat} {v:Value} {l:List Nat} (h:ownsN w base v l) (hb:Below w.heap.size w w'):ownsN w' base v l:=by
 refine World.ownsRow.kept h (row:=none) ⟨hb.os,hb.tape,hb.output,hb.size,fun k hk _=>hb.block k hk⟩ ?_
 cases hv:v.ownBlock with
 | none=>exact .inl rfl
 | some g=>exact .inr (by simp)
theorem ownsN.forms {w:World} {base:Nat} {v:Value} {l:List Nat} (h:ownsN w base v l) :
   (v=.slice none 0 0∧l=[])∨∃ g cap,v=.slice (some ⟨g,0,none⟩) l.length cap∧base≤g∧g < w.heap.size∧∀ j,j < l.length→w.cell? ⟨g,j,none⟩=some (.int .i64 ((l.getD j 0:Nat):Int)):=by
 have hall:=h
 obtain ⟨h0,h1⟩:=h
 rcases h1 with ⟨rfl,hn⟩ | ⟨g,cap,cur,rfl,hb,hh,hc,hm,hs,ht⟩
 · exact .inl ⟨rfl,List.length_eq_zero_iff.1 hn⟩
 · refine .inr ⟨g,cap,rfl,hb,(World.ownsRow.lt hall g rfl).2,fun j hj=>?_⟩
   rw [World.ownsRow.cellAt hall j (by omega)]
   simp [List.getElem?_eq_getElem hj,natV]
theorem wpList_append_int {w:World} {ops:Array Oper} {rest:List Oper} {o:Oper} {a:Act} {Q:Exit→Act→World→Prop} (hgd:o.guard=none) (s x:Operand)
   (ho:o.op=.call { callee:=.builtin .append,args:=#[s,x],argTypes:=#[127,127] })
   (base:Nat) (v:Value) (l:List Nat) (hs:a.eval s=v) (hown:ownsN w base v l)
   (ad:Addr) (c:Nat) (hx:a.eval x=.slice (some ad) 1 c) (d:Nat) (hcell:w.cell? (ad.add 0)=some (.int .i64 (d:Int)))
   (hlen:l.length + 1≤8796093022208) (hbase:base≤w.heap.size)
   (h:∀ g cap w',ownsN w' base (.slice (some ⟨g,0,none⟩) (l.length + 1) cap) (l ++ [d])→w.grownBy w' v.ownBlock→wpList Tryz.prog ops Q rest (a.put o.dst (.slice (some ⟨g,0,none⟩) (l.length + 1) cap)) w'):wpList Tryz.prog ops Q (o :: rest) a w:=by
 obtain ⟨i0,hi,hz0,hz1,hz2⟩:=info_parts info_int
 refine wpList_append_lies w hgd s x 127 ho base 3 i0 (.int .i64 0) 1 8 Tryz.underlying127 hi hz0 hz1 hz2 rfl (by decide) v l.length (l.map natV) hs hown ad 1 c [natV d] hx rfl ?_ ?_ (by decide) (by unfold maxLen;omega) (by omega) hbase _ rfl ?_
 · intro j u hj
   match j,hj with
   | 0,hj=>simp at hj;subst hj;exact hcell
 · intro u hu;simp at hu;subst hu;rfl
 · intro g cap w' h1 h2 _ _
   refine h g cap w' ?_ h2
   unfold ownsN
   rw [List.length_append,List.map_append]
   exact h1
end Go.Proofs.YtjkbmfpomgcblaaGreatDoor
namespace Go.Proofs.YtjkbmfpomgcblaaGreatDoor
open Go.RowKit
theorem info_str:(Tryz.prog.info? 9).map (fun i=>(i.zero,i.size,i.bytes))=some (some (.string ⟨#[]⟩),1,16):=by kernel_rfl
def ownsS (w:World) (base:Nat) (v:Value) (l:List ByteArray):Prop:=w.ownsRow base 9 1 v l.length (l.map Value.string)
theorem ownsS_nil (w:World) (base:Nat):ownsS w base (.slice none 0 0) []:=World.ownsRow_nil _ _ _ _
theorem ownsS.alloc {w:World} {base:Nat} {v:Value} {l:List ByteArray} (h:ownsS w base v l) (o:Obj):ownsS (w.alloc o) base v l:=World.ownsRow.alloc h o
theorem ownsS.drew {w:World} {base:Nat} {v:Value} {l:List ByteArray} (h:ownsS w base v l):ownsS w.drew base v l:=World.ownsRow.drew h
theorem ownsS.lt {w:World} {base:Nat} {v:Value} {l:List ByteArray} (h:ownsS w base v l):∀ k,v.ownBlock=some k→base≤k∧k < w.heap.size:=World.ownsRow.lt h
theorem ownsS.below {w w':World} {base:Nat} {v:Value} {l:List ByteArray} (h:ownsS w base v l) (hb:Below w.heap.size w w'):ownsS w' base v l:=by
 refine World.ownsRow.kept h (row:=none) ⟨hb.os,hb.tape,hb.output,hb.size,fun k hk _=>hb.block k hk⟩ ?_
 cases hv:v.ownBlock with
 | none=>exact .inl rfl
 | some g=>exact .inr (by simp)
theorem ownsS.forms {w:World} {base:Nat} {v:Value} {l:List ByteArray} (h:ownsS w base v l) :
   (v=.slice none 0 0∧l=[])∨∃ g cap,v=.slice (some ⟨g,0,none⟩) l.length cap∧base≤g∧g < w.heap.size∧∀ j,j < l.length→w.cell? ⟨g,j,none⟩=some (.string (l.getD j ByteArray.empty)):=by
 have hall:=h
 obtain ⟨h0,h1⟩:=h
 rcases h1 with ⟨rfl,hn⟩ | ⟨g,cap,cur,rfl,hb,hh,hc,hm,hs,ht⟩
 · exact .inl ⟨rfl,List.length_eq_zero_iff.1 hn⟩
 · refine .inr ⟨g,cap,rfl,hb,(World.ownsRow.lt hall g rfl).2,fun j hj=>?_⟩
   rw [World.ownsRow.cellAt hall j (by omega)]
   simp [List.getElem?_eq_getElem hj]
theorem wpList_append_str {w:World} {ops:Array Oper} {rest:List Oper} {o:Oper} {a:Act} {Q:Exit→Act→World→Prop} (hgd:o.guard=none) (s x:Operand)
   (ho:o.op=.call { callee:=.builtin .append,args:=#[s,x],argTypes:=#[126,126] })
   (base:Nat) (v:Value) (l:List ByteArray) (hs:a.eval s=v) (hown:ownsS w base v l)
   (ad:Addr) (c:Nat) (hx:a.eval x=.slice (some ad) 1 c) (d:ByteArray) (hcell:w.cell? (ad.add 0)=some (.string d))
   (hlen:l.length + 1≤8796093022208) (hbase:base≤w.heap.size)
   (h:∀ g cap w',ownsS w' base (.slice (some ⟨g,0,none⟩) (l.length + 1) cap) (l ++ [d])→w.grownBy w' v.ownBlock→wpList Tryz.prog ops Q rest (a.put o.dst (.slice (some ⟨g,0,none⟩) (l.length + 1) cap)) w'):wpList Tryz.prog ops Q (o :: rest) a w:=by
 obtain ⟨i0,hi,hz0,hz1,hz2⟩:=info_parts info_str
 refine wpList_append_lies w hgd s x 126 ho base 9 i0 (.string ⟨#[]⟩) 1 16 Tryz.underlying126 hi hz0 hz1 hz2 rfl (by decide) v l.length (l.map Value.string) hs hown ad 1 c [.string d] hx rfl ?_ ?_ (by decide) (by unfold maxLen;omega) (by omega) hbase _ rfl ?_
 · intro j u hj
   match j,hj with
   | 0,hj=>simp at hj;subst hj;exact hcell
 · intro u hu;simp at hu;subst hu;rfl
 · intro g cap w' h1 h2 _ _
   refine h g cap w' ?_ h2
   unfold ownsS
   rw [List.length_append,List.map_append]
   exact h1
end Go.Proofs.YtjkbmfpomgcblaaGreatDoor
namespace Go.Proofs.YtjkbmfpomgcblaaGreatDoor
open Go.RowKit
def bitsF:Nat→Nat→Nat
 | 0,_=>0
 | f + 1,n=>if n=0 then 0 else bitsF f (n / 2) + 1
def LTabIs (T : ByteArray) : Prop := ∀ x, x < 256 → ∃ h : x < T.size, (T[x]'h).toNat = bitsF 8 x
theorem LTabIs.at {T : ByteArray} (H : LTabIs T) {n : Int} (x : Nat) (e : n.toNat = x) (hx : x < 256) (h : n.toNat < T.size) : (T[n.toNat]'h).toNat = bitsF 8 x := by
 obtain ⟨_,h2⟩:=H n.toNat (by omega)
 rw [h2,e]
end Go.Proofs.YtjkbmfpomgcblaaGreatDoor
