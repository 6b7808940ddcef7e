/- Nothing of its own: what the texts behind it lean on. -/
import Derived.Test.YtdaahcenplepjaaSlA
import Derived.Test.YtdaahcenplepjaaRx
